/-
  No cell of these rows narrows 'for every input' (looked for: loops, veiled, ifaces, maps, wideKeys, modest, calm, conditions, laid).
  DERIVED. THE GIVEN ROWS OF THIS SEAT. 5 by the template 'for every input the law returns true; each argument reads behind the call as it read before'; 0 by the template 'total and deterministic' (their statements: YtafbkoejobkncaaTotals.lean).
  GIVEN WITH THE SEED: the statements are not yours to turn. If you find one false, say at which input.
  Laid BY PROGRAM, IN A SANDBOX (cutbox-rows.mjs): the forced cells as the released guide's own fill.sh prints them over the translation fbf1f0d12a50f064… (all of the seat's roots in one cut). By AI agents, Wed Nov 11 2026. No macro, syntax, notation, axiom, sorry.
-/
import Derived.Test.YtafbkoejobkncaaChecked
import GoSem.Claim
import GoSem.ClaimJoined
import GoSem.ClaimMapViews
import Derived.JoinedTies
import Derived.KernelRfl
namespace Go.Proofs.Ytafbkoejobkncaa
/- THE CELL 'sum', in the pinned program and in every row, IS THE sha256 OF THE DUMP (.gsa) THAT YtafbkoejobkncaaProg.lean LOADS. Nothing in Lean hashes anything: it is a label: what it is worth is what the hold of that sum in a sandbox is worth. -/
noncomputable def Try.pinned : Pinned := { name := "ytafbkoejobkncaa", sum := "fbf1f0d12a50f0647f464af7a41e9c07a234157a8a2b50715a81a51c4d84b648", checked := Try.checked }
namespace Rows
def none {H : Type} : Left H := { results := [], args := [] }

/-- 'quittancelaw05.DecSays': WHATEVER THE INPUT: true; the input reads as it did. -/
def decSaysSpec : ChangeSpec := { name := "decSays", fn := fun _ => fun
  | [d1, d2, d3] => { results := [.lit (.bool true)], args := [d1, d2, d3] }
  | _ => none }
def decSaysRow : OpenClaim := { program := "ytafbkoejobkncaa", sum := "fbf1f0d12a50f0647f464af7a41e9c07a234157a8a2b50715a81a51c4d84b648", func := "quittance/quittancelaw05.DecSays", spec := "decSays", recurses := true, apart := false }
def DecSaysSaid : Prop := decSaysRow.holds Try.pinned (OpenSpec.ofChange decSaysSpec)

/-- ITS FALSE NEIGHBOUR: 'it returns false'. Refute it at one input. -/
def decSaysWrong : ChangeSpec := { name := "decSays", fn := fun _ => fun
  | [d1, d2, d3] => { results := [.lit (.bool false)], args := [d1, d2, d3] }
  | _ => none }
def DecSaysWrongFalsely : Prop := decSaysRow.holds Try.pinned (OpenSpec.ofChange decSaysWrong)

/-- 'quittancelaw05.DecRing': WHATEVER THE INPUT: true; the input reads as it did. -/
def decRingSpec : ChangeSpec := { name := "decRing", fn := fun _ => fun
  | [d1, d2, d3] => { results := [.lit (.bool true)], args := [d1, d2, d3] }
  | _ => none }
def decRingRow : OpenClaim := { program := "ytafbkoejobkncaa", sum := "fbf1f0d12a50f0647f464af7a41e9c07a234157a8a2b50715a81a51c4d84b648", func := "quittance/quittancelaw05.DecRing", spec := "decRing", recurses := true, apart := false }
def DecRingSaid : Prop := decRingRow.holds Try.pinned (OpenSpec.ofChange decRingSpec)

/-- ITS FALSE NEIGHBOUR: 'it returns false'. Refute it at one input. -/
def decRingWrong : ChangeSpec := { name := "decRing", fn := fun _ => fun
  | [d1, d2, d3] => { results := [.lit (.bool false)], args := [d1, d2, d3] }
  | _ => none }
def DecRingWrongFalsely : Prop := decRingRow.holds Try.pinned (OpenSpec.ofChange decRingWrong)

/-- 'quittancelaw05.DecOrder': WHATEVER THE INPUT: true; the input reads as it did. -/
def decOrderSpec : ChangeSpec := { name := "decOrder", fn := fun _ => fun
  | [d1, d2, d3] => { results := [.lit (.bool true)], args := [d1, d2, d3] }
  | _ => none }
def decOrderRow : OpenClaim := { program := "ytafbkoejobkncaa", sum := "fbf1f0d12a50f0647f464af7a41e9c07a234157a8a2b50715a81a51c4d84b648", func := "quittance/quittancelaw05.DecOrder", spec := "decOrder", recurses := true, apart := false }
def DecOrderSaid : Prop := decOrderRow.holds Try.pinned (OpenSpec.ofChange decOrderSpec)

/-- ITS FALSE NEIGHBOUR: 'it returns false'. Refute it at one input. -/
def decOrderWrong : ChangeSpec := { name := "decOrder", fn := fun _ => fun
  | [d1, d2, d3] => { results := [.lit (.bool false)], args := [d1, d2, d3] }
  | _ => none }
def DecOrderWrongFalsely : Prop := decOrderRow.holds Try.pinned (OpenSpec.ofChange decOrderWrong)

/-- 'quittancelaw05.DecStrips': WHATEVER THE INPUT: true; the input reads as it did. -/
def decStripsSpec : ChangeSpec := { name := "decStrips", fn := fun _ => fun
  | [d1, d2, d3] => { results := [.lit (.bool true)], args := [d1, d2, d3] }
  | _ => none }
def decStripsRow : OpenClaim := { program := "ytafbkoejobkncaa", sum := "fbf1f0d12a50f0647f464af7a41e9c07a234157a8a2b50715a81a51c4d84b648", func := "quittance/quittancelaw05.DecStrips", spec := "decStrips", recurses := true, apart := false }
def DecStripsSaid : Prop := decStripsRow.holds Try.pinned (OpenSpec.ofChange decStripsSpec)

/-- ITS FALSE NEIGHBOUR: 'it returns false'. Refute it at one input. -/
def decStripsWrong : ChangeSpec := { name := "decStrips", fn := fun _ => fun
  | [d1, d2, d3] => { results := [.lit (.bool false)], args := [d1, d2, d3] }
  | _ => none }
def DecStripsWrongFalsely : Prop := decStripsRow.holds Try.pinned (OpenSpec.ofChange decStripsWrong)

/-- 'quittancelaw05.DecPowers': WHATEVER THE INPUT: true; the input reads as it did. -/
def decPowersSpec : ChangeSpec := { name := "decPowers", fn := fun _ => fun
  | [d1, d2, d3] => { results := [.lit (.bool true)], args := [d1, d2, d3] }
  | _ => none }
def decPowersRow : OpenClaim := { program := "ytafbkoejobkncaa", sum := "fbf1f0d12a50f0647f464af7a41e9c07a234157a8a2b50715a81a51c4d84b648", func := "quittance/quittancelaw05.DecPowers", spec := "decPowers", recurses := true, apart := false }
def DecPowersSaid : Prop := decPowersRow.holds Try.pinned (OpenSpec.ofChange decPowersSpec)

/-- ITS FALSE NEIGHBOUR: 'it returns false'. Refute it at one input. -/
def decPowersWrong : ChangeSpec := { name := "decPowers", fn := fun _ => fun
  | [d1, d2, d3] => { results := [.lit (.bool false)], args := [d1, d2, d3] }
  | _ => none }
def DecPowersWrongFalsely : Prop := decPowersRow.holds Try.pinned (OpenSpec.ofChange decPowersWrong)

/- THE SECOND FORM. 'bulk': how many values and letters a reading holds, each counted each time it is reached (what is shared counts as often as it is met; a slice's spare places count too). A statement '..UptoSaid' is the law's where the arguments, and the package variables that the reading takes, are together of bulk at most 1048576: NARROWER than '..Said'. Prove '..Said' where nothing that the law and all that it calls make is longer than what came in: it says more and counts as full. Else prove '..UptoSaid'. A law counts once. -/
mutual
def uptoBulk {H : Type} : DataW H → Nat
  | .lit (.string bytes) => bytes.length + 1
  | .lit _ => 1
  | .nil => 1
  | .ptr d => uptoBulk d + 1
  | .slice elems spare => uptoBulkAll elems + uptoBulkAll spare + 1
  | .agg parts => uptoBulkAll parts + 1
  | .iface _ d => uptoBulk d + 1
  | .map entries => uptoBulkEntries entries + 1
  | .held _ => 1
def uptoBulkAll {H : Type} : List (DataW H) → Nat
  | [] => 0
  | d :: r => uptoBulk d + uptoBulkAll r
def uptoBulkEntries {H : Type} : List (Lit × DataW H) → Nat
  | [] => 0
  | x :: r => uptoBulkEntry x + uptoBulkEntries r
def uptoBulkEntry {H : Type} : Lit × DataW H → Nat
  | (.string bytes, d) => bytes.length + uptoBulk d + 1
  | (_, d) => uptoBulk d + 1
 end
def uptoSmall : (H : Type) → List (DataW H) → Bool := fun _ ds => decide (uptoBulkAll ds ≤ 1048576)
def OpenSpec.upto (s : _root_.Go.ChangeSpec) : _root_.Go.OpenSpec := { _root_.Go.OpenSpec.ofChange s with cond := some uptoSmall }

/-- 'quittancelaw05.DecSays', WHERE WHAT IT READS IS OF BULK AT MOST 1048576: true; the input reads as it did. -/
def decSaysUptoRow : OpenClaim := { program := "ytafbkoejobkncaa", sum := "fbf1f0d12a50f0647f464af7a41e9c07a234157a8a2b50715a81a51c4d84b648", func := "quittance/quittancelaw05.DecSays", spec := "decSays", recurses := true, apart := false, narrowed := true }
def DecSaysUptoSaid : Prop := decSaysUptoRow.holds Try.pinned (OpenSpec.upto decSaysSpec)

/-- 'quittancelaw05.DecRing', WHERE WHAT IT READS IS OF BULK AT MOST 1048576: true; the input reads as it did. -/
def decRingUptoRow : OpenClaim := { program := "ytafbkoejobkncaa", sum := "fbf1f0d12a50f0647f464af7a41e9c07a234157a8a2b50715a81a51c4d84b648", func := "quittance/quittancelaw05.DecRing", spec := "decRing", recurses := true, apart := false, narrowed := true }
def DecRingUptoSaid : Prop := decRingUptoRow.holds Try.pinned (OpenSpec.upto decRingSpec)

/-- 'quittancelaw05.DecOrder', WHERE WHAT IT READS IS OF BULK AT MOST 1048576: true; the input reads as it did. -/
def decOrderUptoRow : OpenClaim := { program := "ytafbkoejobkncaa", sum := "fbf1f0d12a50f0647f464af7a41e9c07a234157a8a2b50715a81a51c4d84b648", func := "quittance/quittancelaw05.DecOrder", spec := "decOrder", recurses := true, apart := false, narrowed := true }
def DecOrderUptoSaid : Prop := decOrderUptoRow.holds Try.pinned (OpenSpec.upto decOrderSpec)

/-- 'quittancelaw05.DecStrips', WHERE WHAT IT READS IS OF BULK AT MOST 1048576: true; the input reads as it did. -/
def decStripsUptoRow : OpenClaim := { program := "ytafbkoejobkncaa", sum := "fbf1f0d12a50f0647f464af7a41e9c07a234157a8a2b50715a81a51c4d84b648", func := "quittance/quittancelaw05.DecStrips", spec := "decStrips", recurses := true, apart := false, narrowed := true }
def DecStripsUptoSaid : Prop := decStripsUptoRow.holds Try.pinned (OpenSpec.upto decStripsSpec)

/-- 'quittancelaw05.DecPowers', WHERE WHAT IT READS IS OF BULK AT MOST 1048576: true; the input reads as it did. -/
def decPowersUptoRow : OpenClaim := { program := "ytafbkoejobkncaa", sum := "fbf1f0d12a50f0647f464af7a41e9c07a234157a8a2b50715a81a51c4d84b648", func := "quittance/quittancelaw05.DecPowers", spec := "decPowers", recurses := true, apart := false, narrowed := true }
def DecPowersUptoSaid : Prop := decPowersUptoRow.holds Try.pinned (OpenSpec.upto decPowersSpec)

end Rows
end Go.Proofs.Ytafbkoejobkncaa
