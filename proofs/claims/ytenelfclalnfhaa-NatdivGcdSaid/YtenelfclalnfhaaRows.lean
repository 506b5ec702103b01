/-
  No cell of these rows narrows 'for every input' (looked for: loops, veiled, ifaces, maps, wideKeys, modest, calm, conditions, laid).
  DERIVED. THE GIVEN ROWS OF THIS SEAT. 5 by the template 'for every input the law returns true; each argument reads behind the call as it read before'; 0 by the template 'total and deterministic' (their statements: YtenelfclalnfhaaTotals.lean).
  GIVEN WITH THE SEED: the statements are not yours to turn. If you find one false, say at which input.
  Laid BY PROGRAM, IN A SANDBOX (cutbox-rows.mjs): the forced cells as the released guide's own fill.sh prints them over the translation 6c4db144ef19726d… (all of the seat's roots in one cut). By AI agents, Wed Nov 11 2026. No macro, syntax, notation, axiom, sorry.
-/
import Derived.Test.YtenelfclalnfhaaChecked
import GoSem.Claim
import GoSem.ClaimJoined
import GoSem.ClaimMapViews
import Derived.JoinedTies
import Derived.KernelRfl
namespace Go.Proofs.Ytenelfclalnfhaa
/- THE CELL 'sum', in the pinned program and in every row, IS THE sha256 OF THE DUMP (.gsa) THAT YtenelfclalnfhaaProg.lean LOADS. Nothing in Lean hashes anything: it is a label: what it is worth is what the hold of that sum in a sandbox is worth. -/
noncomputable def Try.pinned : Pinned := { name := "ytenelfclalnfhaa", sum := "6c4db144ef19726de356735ded831c54b00144ea00a8dca1f656145613753cad", checked := Try.checked }
namespace Rows
def none {H : Type} : Left H := { results := [], args := [] }

/-- 'quittancelaw03.NatdivSays': WHATEVER THE INPUT: true; the input reads as it did. -/
def natdivSaysSpec : ChangeSpec := { name := "natdivSays", fn := fun _ => fun
  | [d1, d2, d3] => { results := [.lit (.bool true)], args := [d1, d2, d3] }
  | _ => none }
def natdivSaysRow : OpenClaim := { program := "ytenelfclalnfhaa", sum := "6c4db144ef19726de356735ded831c54b00144ea00a8dca1f656145613753cad", func := "quittance/quittancelaw03.NatdivSays", spec := "natdivSays", recurses := true, apart := false }
def NatdivSaysSaid : Prop := natdivSaysRow.holds Try.pinned (OpenSpec.ofChange natdivSaysSpec)

/-- ITS FALSE NEIGHBOUR: 'it returns false'. Refute it at one input. -/
def natdivSaysWrong : ChangeSpec := { name := "natdivSays", fn := fun _ => fun
  | [d1, d2, d3] => { results := [.lit (.bool false)], args := [d1, d2, d3] }
  | _ => none }
def NatdivSaysWrongFalsely : Prop := natdivSaysRow.holds Try.pinned (OpenSpec.ofChange natdivSaysWrong)

/-- 'quittancelaw03.NatdivBack': WHATEVER THE INPUT: true; the input reads as it did. -/
def natdivBackSpec : ChangeSpec := { name := "natdivBack", fn := fun _ => fun
  | [d1, d2] => { results := [.lit (.bool true)], args := [d1, d2] }
  | _ => none }
def natdivBackRow : OpenClaim := { program := "ytenelfclalnfhaa", sum := "6c4db144ef19726de356735ded831c54b00144ea00a8dca1f656145613753cad", func := "quittance/quittancelaw03.NatdivBack", spec := "natdivBack", apart := false }
def NatdivBackSaid : Prop := natdivBackRow.holds Try.pinned (OpenSpec.ofChange natdivBackSpec)

/-- ITS FALSE NEIGHBOUR: 'it returns false'. Refute it at one input. -/
def natdivBackWrong : ChangeSpec := { name := "natdivBack", fn := fun _ => fun
  | [d1, d2] => { results := [.lit (.bool false)], args := [d1, d2] }
  | _ => none }
def NatdivBackWrongFalsely : Prop := natdivBackRow.holds Try.pinned (OpenSpec.ofChange natdivBackWrong)

/-- 'quittancelaw03.NatdivGcd': WHATEVER THE INPUT: true; the input reads as it did. -/
def natdivGcdSpec : ChangeSpec := { name := "natdivGcd", fn := fun _ => fun
  | [d1, d2, d3] => { results := [.lit (.bool true)], args := [d1, d2, d3] }
  | _ => none }
def natdivGcdRow : OpenClaim := { program := "ytenelfclalnfhaa", sum := "6c4db144ef19726de356735ded831c54b00144ea00a8dca1f656145613753cad", func := "quittance/quittancelaw03.NatdivGcd", spec := "natdivGcd", recurses := true, apart := false }
def NatdivGcdSaid : Prop := natdivGcdRow.holds Try.pinned (OpenSpec.ofChange natdivGcdSpec)

/-- ITS FALSE NEIGHBOUR: 'it returns false'. Refute it at one input. -/
def natdivGcdWrong : ChangeSpec := { name := "natdivGcd", fn := fun _ => fun
  | [d1, d2, d3] => { results := [.lit (.bool false)], args := [d1, d2, d3] }
  | _ => none }
def NatdivGcdWrongFalsely : Prop := natdivGcdRow.holds Try.pinned (OpenSpec.ofChange natdivGcdWrong)

/-- 'quittancelaw03.NatdivNear': WHATEVER THE INPUT: true; the input reads as it did. -/
def natdivNearSpec : ChangeSpec := { name := "natdivNear", fn := fun _ => fun
  | [d1, d2] => { results := [.lit (.bool true)], args := [d1, d2] }
  | _ => none }
def natdivNearRow : OpenClaim := { program := "ytenelfclalnfhaa", sum := "6c4db144ef19726de356735ded831c54b00144ea00a8dca1f656145613753cad", func := "quittance/quittancelaw03.NatdivNear", spec := "natdivNear", apart := false }
def NatdivNearSaid : Prop := natdivNearRow.holds Try.pinned (OpenSpec.ofChange natdivNearSpec)

/-- ITS FALSE NEIGHBOUR: 'it returns false'. Refute it at one input. -/
def natdivNearWrong : ChangeSpec := { name := "natdivNear", fn := fun _ => fun
  | [d1, d2] => { results := [.lit (.bool false)], args := [d1, d2] }
  | _ => none }
def NatdivNearWrongFalsely : Prop := natdivNearRow.holds Try.pinned (OpenSpec.ofChange natdivNearWrong)

/-- 'quittancelaw03.NatdivRoots': WHATEVER THE INPUT: true; the input reads as it did. -/
def natdivRootsSpec : ChangeSpec := { name := "natdivRoots", fn := fun _ => fun
  | [d1, d2] => { results := [.lit (.bool true)], args := [d1, d2] }
  | _ => none }
def natdivRootsRow : OpenClaim := { program := "ytenelfclalnfhaa", sum := "6c4db144ef19726de356735ded831c54b00144ea00a8dca1f656145613753cad", func := "quittance/quittancelaw03.NatdivRoots", spec := "natdivRoots", recurses := true, apart := false }
def NatdivRootsSaid : Prop := natdivRootsRow.holds Try.pinned (OpenSpec.ofChange natdivRootsSpec)

/-- ITS FALSE NEIGHBOUR: 'it returns false'. Refute it at one input. -/
def natdivRootsWrong : ChangeSpec := { name := "natdivRoots", fn := fun _ => fun
  | [d1, d2] => { results := [.lit (.bool false)], args := [d1, d2] }
  | _ => none }
def NatdivRootsWrongFalsely : Prop := natdivRootsRow.holds Try.pinned (OpenSpec.ofChange natdivRootsWrong)

/- THE SECOND FORM. 'bulk': how many values and letters a reading holds, each counted each time it is reached (what is shared counts as often as it is met; a slice's spare places count too). A statement '..UptoSaid' is the law's where the arguments, and the package variables that the reading takes, are together of bulk at most 1048576: NARROWER than '..Said'. Prove '..Said' where nothing that the law and all that it calls make is longer than what came in: it says more and counts as full. Else prove '..UptoSaid'. A law counts once. -/
mutual
def uptoBulk {H : Type} : DataW H → Nat
  | .lit (.string bytes) => bytes.length + 1
  | .lit _ => 1
  | .nil => 1
  | .ptr d => uptoBulk d + 1
  | .slice elems spare => uptoBulkAll elems + uptoBulkAll spare + 1
  | .agg parts => uptoBulkAll parts + 1
  | .iface _ d => uptoBulk d + 1
  | .map entries => uptoBulkEntries entries + 1
  | .held _ => 1
def uptoBulkAll {H : Type} : List (DataW H) → Nat
  | [] => 0
  | d :: r => uptoBulk d + uptoBulkAll r
def uptoBulkEntries {H : Type} : List (Lit × DataW H) → Nat
  | [] => 0
  | x :: r => uptoBulkEntry x + uptoBulkEntries r
def uptoBulkEntry {H : Type} : Lit × DataW H → Nat
  | (.string bytes, d) => bytes.length + uptoBulk d + 1
  | (_, d) => uptoBulk d + 1
 end
def uptoSmall : (H : Type) → List (DataW H) → Bool := fun _ ds => decide (uptoBulkAll ds ≤ 1048576)
def OpenSpec.upto (s : _root_.Go.ChangeSpec) : _root_.Go.OpenSpec := { _root_.Go.OpenSpec.ofChange s with cond := some uptoSmall }

/-- 'quittancelaw03.NatdivSays', WHERE WHAT IT READS IS OF BULK AT MOST 1048576: true; the input reads as it did. -/
def natdivSaysUptoRow : OpenClaim := { program := "ytenelfclalnfhaa", sum := "6c4db144ef19726de356735ded831c54b00144ea00a8dca1f656145613753cad", func := "quittance/quittancelaw03.NatdivSays", spec := "natdivSays", recurses := true, apart := false, narrowed := true }
def NatdivSaysUptoSaid : Prop := natdivSaysUptoRow.holds Try.pinned (OpenSpec.upto natdivSaysSpec)

/-- 'quittancelaw03.NatdivBack', WHERE WHAT IT READS IS OF BULK AT MOST 1048576: true; the input reads as it did. -/
def natdivBackUptoRow : OpenClaim := { program := "ytenelfclalnfhaa", sum := "6c4db144ef19726de356735ded831c54b00144ea00a8dca1f656145613753cad", func := "quittance/quittancelaw03.NatdivBack", spec := "natdivBack", apart := false, narrowed := true }
def NatdivBackUptoSaid : Prop := natdivBackUptoRow.holds Try.pinned (OpenSpec.upto natdivBackSpec)

/-- 'quittancelaw03.NatdivGcd', WHERE WHAT IT READS IS OF BULK AT MOST 1048576: true; the input reads as it did. -/
def natdivGcdUptoRow : OpenClaim := { program := "ytenelfclalnfhaa", sum := "6c4db144ef19726de356735ded831c54b00144ea00a8dca1f656145613753cad", func := "quittance/quittancelaw03.NatdivGcd", spec := "natdivGcd", recurses := true, apart := false, narrowed := true }
def NatdivGcdUptoSaid : Prop := natdivGcdUptoRow.holds Try.pinned (OpenSpec.upto natdivGcdSpec)

/-- 'quittancelaw03.NatdivNear', WHERE WHAT IT READS IS OF BULK AT MOST 1048576: true; the input reads as it did. -/
def natdivNearUptoRow : OpenClaim := { program := "ytenelfclalnfhaa", sum := "6c4db144ef19726de356735ded831c54b00144ea00a8dca1f656145613753cad", func := "quittance/quittancelaw03.NatdivNear", spec := "natdivNear", apart := false, narrowed := true }
def NatdivNearUptoSaid : Prop := natdivNearUptoRow.holds Try.pinned (OpenSpec.upto natdivNearSpec)

/-- 'quittancelaw03.NatdivRoots', WHERE WHAT IT READS IS OF BULK AT MOST 1048576: true; the input reads as it did. -/
def natdivRootsUptoRow : OpenClaim := { program := "ytenelfclalnfhaa", sum := "6c4db144ef19726de356735ded831c54b00144ea00a8dca1f656145613753cad", func := "quittance/quittancelaw03.NatdivRoots", spec := "natdivRoots", recurses := true, apart := false, narrowed := true }
def NatdivRootsUptoSaid : Prop := natdivRootsUptoRow.holds Try.pinned (OpenSpec.upto natdivRootsSpec)

end Rows
end Go.Proofs.Ytenelfclalnfhaa
