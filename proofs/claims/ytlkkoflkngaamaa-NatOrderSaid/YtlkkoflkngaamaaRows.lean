/-
  No cell of these rows narrows 'for every input' (looked for: loops, veiled, ifaces, maps, wideKeys, modest, calm, conditions, laid).
  DERIVED. THE GIVEN ROWS OF THIS SEAT. 4 by the template 'for every input the law returns true; each argument reads behind the call as it read before'; 0 by the template 'total and deterministic' (their statements: YtlkkoflkngaamaaTotals.lean).
  GIVEN WITH THE SEED: the statements are not yours to turn. If you find one false, say at which input.
  Laid BY PROGRAM, IN A SANDBOX (cutbox-rows.mjs): the forced cells as the released guide's own fill.sh prints them over the translation 4bec25cd91da7fbb… (all of the seat's roots in one cut). By AI agents, Wed Nov 11 2026. No macro, syntax, notation, axiom, sorry.
-/
import Derived.Test.YtlkkoflkngaamaaChecked
import GoSem.Claim
import GoSem.ClaimJoined
import GoSem.ClaimMapViews
import Derived.JoinedTies
import Derived.KernelRfl
namespace Go.Proofs.Ytlkkoflkngaamaa
/- THE CELL 'sum', in the pinned program and in every row, IS THE sha256 OF THE DUMP (.gsa) THAT YtlkkoflkngaamaaProg.lean LOADS. Nothing in Lean hashes anything: it is a label: what it is worth is what the hold of that sum in a sandbox is worth. -/
noncomputable def Try.pinned : Pinned := { name := "ytlkkoflkngaamaa", sum := "4bec25cd91da7fbb0ce02ddfa0c3ba53f878f4f3f92738ebbb52de2cb845c57c", checked := Try.checked }
namespace Rows
def none {H : Type} : Left H := { results := [], args := [] }

/-- 'quittancelaw01.NatSays': WHATEVER THE INPUT: true; the input reads as it did. -/
def natSaysSpec : ChangeSpec := { name := "natSays", fn := fun _ => fun
  | [d1, d2, d3] => { results := [.lit (.bool true)], args := [d1, d2, d3] }
  | _ => none }
def natSaysRow : OpenClaim := { program := "ytlkkoflkngaamaa", sum := "4bec25cd91da7fbb0ce02ddfa0c3ba53f878f4f3f92738ebbb52de2cb845c57c", func := "quittance/quittancelaw01.NatSays", spec := "natSays", recurses := true, apart := false }
def NatSaysSaid : Prop := natSaysRow.holds Try.pinned (OpenSpec.ofChange natSaysSpec)

/-- ITS FALSE NEIGHBOUR: 'it returns false'. Refute it at one input. -/
def natSaysWrong : ChangeSpec := { name := "natSays", fn := fun _ => fun
  | [d1, d2, d3] => { results := [.lit (.bool false)], args := [d1, d2, d3] }
  | _ => none }
def NatSaysWrongFalsely : Prop := natSaysRow.holds Try.pinned (OpenSpec.ofChange natSaysWrong)

/-- 'quittancelaw01.NatRing': WHATEVER THE INPUT: true; the input reads as it did. -/
def natRingSpec : ChangeSpec := { name := "natRing", fn := fun _ => fun
  | [d1, d2, d3] => { results := [.lit (.bool true)], args := [d1, d2, d3] }
  | _ => none }
def natRingRow : OpenClaim := { program := "ytlkkoflkngaamaa", sum := "4bec25cd91da7fbb0ce02ddfa0c3ba53f878f4f3f92738ebbb52de2cb845c57c", func := "quittance/quittancelaw01.NatRing", spec := "natRing", apart := false }
def NatRingSaid : Prop := natRingRow.holds Try.pinned (OpenSpec.ofChange natRingSpec)

/-- ITS FALSE NEIGHBOUR: 'it returns false'. Refute it at one input. -/
def natRingWrong : ChangeSpec := { name := "natRing", fn := fun _ => fun
  | [d1, d2, d3] => { results := [.lit (.bool false)], args := [d1, d2, d3] }
  | _ => none }
def NatRingWrongFalsely : Prop := natRingRow.holds Try.pinned (OpenSpec.ofChange natRingWrong)

/-- 'quittancelaw01.NatOrder': WHATEVER THE INPUT: true; the input reads as it did. -/
def natOrderSpec : ChangeSpec := { name := "natOrder", fn := fun _ => fun
  | [d1, d2, d3] => { results := [.lit (.bool true)], args := [d1, d2, d3] }
  | _ => none }
def natOrderRow : OpenClaim := { program := "ytlkkoflkngaamaa", sum := "4bec25cd91da7fbb0ce02ddfa0c3ba53f878f4f3f92738ebbb52de2cb845c57c", func := "quittance/quittancelaw01.NatOrder", spec := "natOrder", apart := false }
def NatOrderSaid : Prop := natOrderRow.holds Try.pinned (OpenSpec.ofChange natOrderSpec)

/-- ITS FALSE NEIGHBOUR: 'it returns false'. Refute it at one input. -/
def natOrderWrong : ChangeSpec := { name := "natOrder", fn := fun _ => fun
  | [d1, d2, d3] => { results := [.lit (.bool false)], args := [d1, d2, d3] }
  | _ => none }
def NatOrderWrongFalsely : Prop := natOrderRow.holds Try.pinned (OpenSpec.ofChange natOrderWrong)

/-- 'quittancelaw01.NatTrims': WHATEVER THE INPUT: true; the input reads as it did. -/
def natTrimsSpec : ChangeSpec := { name := "natTrims", fn := fun _ => fun
  | [d1, d2, d3] => { results := [.lit (.bool true)], args := [d1, d2, d3] }
  | _ => none }
def natTrimsRow : OpenClaim := { program := "ytlkkoflkngaamaa", sum := "4bec25cd91da7fbb0ce02ddfa0c3ba53f878f4f3f92738ebbb52de2cb845c57c", func := "quittance/quittancelaw01.NatTrims", spec := "natTrims", recurses := true, apart := false }
def NatTrimsSaid : Prop := natTrimsRow.holds Try.pinned (OpenSpec.ofChange natTrimsSpec)

/-- ITS FALSE NEIGHBOUR: 'it returns false'. Refute it at one input. -/
def natTrimsWrong : ChangeSpec := { name := "natTrims", fn := fun _ => fun
  | [d1, d2, d3] => { results := [.lit (.bool false)], args := [d1, d2, d3] }
  | _ => none }
def NatTrimsWrongFalsely : Prop := natTrimsRow.holds Try.pinned (OpenSpec.ofChange natTrimsWrong)

/- THE SECOND FORM. 'bulk': how many values and letters a reading holds, each counted each time it is reached (what is shared counts as often as it is met; a slice's spare places count too). A statement '..UptoSaid' is the law's where the arguments, and the package variables that the reading takes, are together of bulk at most 1048576: NARROWER than '..Said'. Prove '..Said' where nothing that the law and all that it calls make is longer than what came in: it says more and counts as full. Else prove '..UptoSaid'. A law counts once. -/
mutual
def uptoBulk {H : Type} : DataW H → Nat
  | .lit (.string bytes) => bytes.length + 1
  | .lit _ => 1
  | .nil => 1
  | .ptr d => uptoBulk d + 1
  | .slice elems spare => uptoBulkAll elems + uptoBulkAll spare + 1
  | .agg parts => uptoBulkAll parts + 1
  | .iface _ d => uptoBulk d + 1
  | .map entries => uptoBulkEntries entries + 1
  | .held _ => 1
def uptoBulkAll {H : Type} : List (DataW H) → Nat
  | [] => 0
  | d :: r => uptoBulk d + uptoBulkAll r
def uptoBulkEntries {H : Type} : List (Lit × DataW H) → Nat
  | [] => 0
  | x :: r => uptoBulkEntry x + uptoBulkEntries r
def uptoBulkEntry {H : Type} : Lit × DataW H → Nat
  | (.string bytes, d) => bytes.length + uptoBulk d + 1
  | (_, d) => uptoBulk d + 1
 end
def uptoSmall : (H : Type) → List (DataW H) → Bool := fun _ ds => decide (uptoBulkAll ds ≤ 1048576)
def OpenSpec.upto (s : _root_.Go.ChangeSpec) : _root_.Go.OpenSpec := { _root_.Go.OpenSpec.ofChange s with cond := some uptoSmall }

/-- 'quittancelaw01.NatSays', WHERE WHAT IT READS IS OF BULK AT MOST 1048576: true; the input reads as it did. -/
def natSaysUptoRow : OpenClaim := { program := "ytlkkoflkngaamaa", sum := "4bec25cd91da7fbb0ce02ddfa0c3ba53f878f4f3f92738ebbb52de2cb845c57c", func := "quittance/quittancelaw01.NatSays", spec := "natSays", recurses := true, apart := false, narrowed := true }
def NatSaysUptoSaid : Prop := natSaysUptoRow.holds Try.pinned (OpenSpec.upto natSaysSpec)

/-- 'quittancelaw01.NatRing', WHERE WHAT IT READS IS OF BULK AT MOST 1048576: true; the input reads as it did. -/
def natRingUptoRow : OpenClaim := { program := "ytlkkoflkngaamaa", sum := "4bec25cd91da7fbb0ce02ddfa0c3ba53f878f4f3f92738ebbb52de2cb845c57c", func := "quittance/quittancelaw01.NatRing", spec := "natRing", apart := false, narrowed := true }
def NatRingUptoSaid : Prop := natRingUptoRow.holds Try.pinned (OpenSpec.upto natRingSpec)

/-- 'quittancelaw01.NatOrder', WHERE WHAT IT READS IS OF BULK AT MOST 1048576: true; the input reads as it did. -/
def natOrderUptoRow : OpenClaim := { program := "ytlkkoflkngaamaa", sum := "4bec25cd91da7fbb0ce02ddfa0c3ba53f878f4f3f92738ebbb52de2cb845c57c", func := "quittance/quittancelaw01.NatOrder", spec := "natOrder", apart := false, narrowed := true }
def NatOrderUptoSaid : Prop := natOrderUptoRow.holds Try.pinned (OpenSpec.upto natOrderSpec)

/-- 'quittancelaw01.NatTrims', WHERE WHAT IT READS IS OF BULK AT MOST 1048576: true; the input reads as it did. -/
def natTrimsUptoRow : OpenClaim := { program := "ytlkkoflkngaamaa", sum := "4bec25cd91da7fbb0ce02ddfa0c3ba53f878f4f3f92738ebbb52de2cb845c57c", func := "quittance/quittancelaw01.NatTrims", spec := "natTrims", recurses := true, apart := false, narrowed := true }
def NatTrimsUptoSaid : Prop := natTrimsUptoRow.holds Try.pinned (OpenSpec.upto natTrimsSpec)

end Rows
end Go.Proofs.Ytlkkoflkngaamaa
