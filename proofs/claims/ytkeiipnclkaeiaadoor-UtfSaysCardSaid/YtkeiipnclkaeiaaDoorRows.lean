/-
  NARROWER THAN 'FOR EVERY INPUT', by the rows' own cells (each row's printed sentence says how): UtfSays: laid · UtfSigns: laid · UtfJoins: laid · UtfCuts: laid.
  DERIVED. THE GIVEN ROWS OF THIS SEAT. 4 by the template 'for every input the law returns true; each argument reads behind the call as it read before'; 0 by the template 'total and deterministic' (their statements: YtkeiipnclkaeiaaDoorTotals.lean).
  GIVEN WITH THE SEED: the statements are not yours to turn. If you find one false, say at which input.
  Laid BY PROGRAM, IN A SANDBOX (cutbox-rows.mjs): the forced cells as the released guide's own fill.sh prints them over the translation e15504eb209dc5c5… (all of the seat's roots in one cut). By AI agents, Wed Nov 11 2026. No macro, syntax, notation, axiom, sorry.
-/
import Derived.Test.YtkeiipnclkaeiaaDoorChecked
import GoSem.Claim
import GoSem.ClaimJoined
import GoSem.ClaimMapViews
import Derived.JoinedTies
import Derived.KernelRfl
namespace Go.Proofs.YtkeiipnclkaeiaaDoor
/- THE CELL 'sum', in the pinned program and in every row, IS THE sha256 OF THE DUMP (.gsa) THAT YtkeiipnclkaeiaaDoorProg.lean LOADS. Nothing in Lean hashes anything: it is a label: what it is worth is what the hold of that sum in a sandbox is worth. -/
noncomputable def Tryd.pinned : Pinned := { name := "ytkeiipnclkaeiaadoor", sum := "e15504eb209dc5c5e3468d99557eb1a34383506c53838a82a4c43788af081722", checked := Tryd.checked }
namespace Rows
def none {H : Type} : Left H := { results := [], args := [] }

/- WHAT THE LISTED PACKAGE-LEVEL VARIABLES READ AS WHEN THE CALL BEGINS. Each datum BY PROGRAM (the guide's laid-datum.mjs) off the statement by which the dump's own 'gosem.cut.vars' lays the variable. In a bare row this is a premise. The card (YtkeiipnclkaeiaaDoorCards.lean) ties it to the program's text. -/
def laid_quittance_utf_least {H : Type} : DataW H := .agg [.lit (.int .i64 0), .lit (.int .i64 128), .lit (.int .i64 2048), .lit (.int .i64 65536)]
def laid_quittance_utf_marks {H : Type} : DataW H := .agg [.lit (.int .i64 0), .lit (.int .i64 192), .lit (.int .i64 224), .lit (.int .i64 240)]

/-- 'quittancelaw09.UtfSays': WHATEVER THE INPUT: true; the input reads as it did. -/
def utfSaysSpec : ChangeSpec := { name := "utfSays", fn := fun _ => fun
  | [d1, d2] => { results := [.lit (.bool true)], args := [d1, d2] }
  | _ => none }
def utfSaysRow : OpenClaim := { program := "ytkeiipnclkaeiaadoor", sum := "e15504eb209dc5c5e3468d99557eb1a34383506c53838a82a4c43788af081722", func := "quittance/quittancelaw09.UtfSays", spec := "utfSays", named := ["quittance/utf.marks", "quittance/utf.least"], apart := false, laid := [("quittance/utf.least", laid_quittance_utf_least), ("quittance/utf.marks", laid_quittance_utf_marks)] }
def UtfSaysSaid : Prop := utfSaysRow.holds Tryd.pinned (OpenSpec.ofChange utfSaysSpec)

/-- ITS FALSE NEIGHBOUR: 'it returns false'. Refute it at one input. -/
def utfSaysWrong : ChangeSpec := { name := "utfSays", fn := fun _ => fun
  | [d1, d2] => { results := [.lit (.bool false)], args := [d1, d2] }
  | _ => none }
def UtfSaysWrongFalsely : Prop := utfSaysRow.holds Tryd.pinned (OpenSpec.ofChange utfSaysWrong)

/-- 'quittancelaw09.UtfSigns': WHATEVER THE INPUT: true; the input reads as it did. -/
def utfSignsSpec : ChangeSpec := { name := "utfSigns", fn := fun _ => fun
  | [d1, d2, d3] => { results := [.lit (.bool true)], args := [d1, d2, d3] }
  | _ => none }
def utfSignsRow : OpenClaim := { program := "ytkeiipnclkaeiaadoor", sum := "e15504eb209dc5c5e3468d99557eb1a34383506c53838a82a4c43788af081722", func := "quittance/quittancelaw09.UtfSigns", spec := "utfSigns", named := ["quittance/utf.marks", "quittance/utf.least"], apart := false, laid := [("quittance/utf.least", laid_quittance_utf_least), ("quittance/utf.marks", laid_quittance_utf_marks)] }
def UtfSignsSaid : Prop := utfSignsRow.holds Tryd.pinned (OpenSpec.ofChange utfSignsSpec)

/-- ITS FALSE NEIGHBOUR: 'it returns false'. Refute it at one input. -/
def utfSignsWrong : ChangeSpec := { name := "utfSigns", fn := fun _ => fun
  | [d1, d2, d3] => { results := [.lit (.bool false)], args := [d1, d2, d3] }
  | _ => none }
def UtfSignsWrongFalsely : Prop := utfSignsRow.holds Tryd.pinned (OpenSpec.ofChange utfSignsWrong)

/-- 'quittancelaw09.UtfJoins': WHATEVER THE INPUT: true; the input reads as it did. -/
def utfJoinsSpec : ChangeSpec := { name := "utfJoins", fn := fun _ => fun
  | [d1, d2] => { results := [.lit (.bool true)], args := [d1, d2] }
  | _ => none }
def utfJoinsRow : OpenClaim := { program := "ytkeiipnclkaeiaadoor", sum := "e15504eb209dc5c5e3468d99557eb1a34383506c53838a82a4c43788af081722", func := "quittance/quittancelaw09.UtfJoins", spec := "utfJoins", named := ["quittance/utf.marks", "quittance/utf.least"], apart := false, laid := [("quittance/utf.least", laid_quittance_utf_least), ("quittance/utf.marks", laid_quittance_utf_marks)] }
def UtfJoinsSaid : Prop := utfJoinsRow.holds Tryd.pinned (OpenSpec.ofChange utfJoinsSpec)

/-- ITS FALSE NEIGHBOUR: 'it returns false'. Refute it at one input. -/
def utfJoinsWrong : ChangeSpec := { name := "utfJoins", fn := fun _ => fun
  | [d1, d2] => { results := [.lit (.bool false)], args := [d1, d2] }
  | _ => none }
def UtfJoinsWrongFalsely : Prop := utfJoinsRow.holds Tryd.pinned (OpenSpec.ofChange utfJoinsWrong)

/-- 'quittancelaw09.UtfCuts': WHATEVER THE INPUT: true; the input reads as it did. -/
def utfCutsSpec : ChangeSpec := { name := "utfCuts", fn := fun _ => fun
  | [d1, d2, d3] => { results := [.lit (.bool true)], args := [d1, d2, d3] }
  | _ => none }
def utfCutsRow : OpenClaim := { program := "ytkeiipnclkaeiaadoor", sum := "e15504eb209dc5c5e3468d99557eb1a34383506c53838a82a4c43788af081722", func := "quittance/quittancelaw09.UtfCuts", spec := "utfCuts", inPlace := ["internal/abi.NoEscape", "internal/bytealg.MakeNoZero"], named := ["quittance/utf.marks", "quittance/utf.least"], apart := false, laid := [("quittance/utf.least", laid_quittance_utf_least), ("quittance/utf.marks", laid_quittance_utf_marks)] }
def UtfCutsSaid : Prop := utfCutsRow.holds Tryd.pinned (OpenSpec.ofChange utfCutsSpec)

/-- ITS FALSE NEIGHBOUR: 'it returns false'. Refute it at one input. -/
def utfCutsWrong : ChangeSpec := { name := "utfCuts", fn := fun _ => fun
  | [d1, d2, d3] => { results := [.lit (.bool false)], args := [d1, d2, d3] }
  | _ => none }
def UtfCutsWrongFalsely : Prop := utfCutsRow.holds Tryd.pinned (OpenSpec.ofChange utfCutsWrong)

/- THE SECOND FORM. 'bulk': how many values and letters a reading holds, each counted each time it is reached (what is shared counts as often as it is met; a slice's spare places count too). A statement '..UptoSaid' is the law's where the arguments, and the package variables that the reading takes, are together of bulk at most 1048576: NARROWER than '..Said'. Prove '..Said' where nothing that the law and all that it calls make is longer than what came in: it says more and counts as full. Else prove '..UptoSaid'. A law counts once. -/
mutual
def uptoBulk {H : Type} : DataW H → Nat
  | .lit (.string bytes) => bytes.length + 1
  | .lit _ => 1
  | .nil => 1
  | .ptr d => uptoBulk d + 1
  | .slice elems spare => uptoBulkAll elems + uptoBulkAll spare + 1
  | .agg parts => uptoBulkAll parts + 1
  | .iface _ d => uptoBulk d + 1
  | .map entries => uptoBulkEntries entries + 1
  | .held _ => 1
def uptoBulkAll {H : Type} : List (DataW H) → Nat
  | [] => 0
  | d :: r => uptoBulk d + uptoBulkAll r
def uptoBulkEntries {H : Type} : List (Lit × DataW H) → Nat
  | [] => 0
  | x :: r => uptoBulkEntry x + uptoBulkEntries r
def uptoBulkEntry {H : Type} : Lit × DataW H → Nat
  | (.string bytes, d) => bytes.length + uptoBulk d + 1
  | (_, d) => uptoBulk d + 1
 end
def uptoSmall : (H : Type) → List (DataW H) → Bool := fun _ ds => decide (uptoBulkAll ds ≤ 1048576)
def OpenSpec.upto (s : _root_.Go.ChangeSpec) : _root_.Go.OpenSpec := { _root_.Go.OpenSpec.ofChange s with cond := some uptoSmall }

/-- 'quittancelaw09.UtfSays', WHERE WHAT IT READS IS OF BULK AT MOST 1048576: true; the input reads as it did. -/
def utfSaysUptoRow : OpenClaim := { program := "ytkeiipnclkaeiaadoor", sum := "e15504eb209dc5c5e3468d99557eb1a34383506c53838a82a4c43788af081722", func := "quittance/quittancelaw09.UtfSays", spec := "utfSays", named := ["quittance/utf.marks", "quittance/utf.least"], apart := false, laid := [("quittance/utf.least", laid_quittance_utf_least), ("quittance/utf.marks", laid_quittance_utf_marks)], narrowed := true }
def UtfSaysUptoSaid : Prop := utfSaysUptoRow.holds Tryd.pinned (OpenSpec.upto utfSaysSpec)

/-- 'quittancelaw09.UtfSigns', WHERE WHAT IT READS IS OF BULK AT MOST 1048576: true; the input reads as it did. -/
def utfSignsUptoRow : OpenClaim := { program := "ytkeiipnclkaeiaadoor", sum := "e15504eb209dc5c5e3468d99557eb1a34383506c53838a82a4c43788af081722", func := "quittance/quittancelaw09.UtfSigns", spec := "utfSigns", named := ["quittance/utf.marks", "quittance/utf.least"], apart := false, laid := [("quittance/utf.least", laid_quittance_utf_least), ("quittance/utf.marks", laid_quittance_utf_marks)], narrowed := true }
def UtfSignsUptoSaid : Prop := utfSignsUptoRow.holds Tryd.pinned (OpenSpec.upto utfSignsSpec)

/-- 'quittancelaw09.UtfJoins', WHERE WHAT IT READS IS OF BULK AT MOST 1048576: true; the input reads as it did. -/
def utfJoinsUptoRow : OpenClaim := { program := "ytkeiipnclkaeiaadoor", sum := "e15504eb209dc5c5e3468d99557eb1a34383506c53838a82a4c43788af081722", func := "quittance/quittancelaw09.UtfJoins", spec := "utfJoins", named := ["quittance/utf.marks", "quittance/utf.least"], apart := false, laid := [("quittance/utf.least", laid_quittance_utf_least), ("quittance/utf.marks", laid_quittance_utf_marks)], narrowed := true }
def UtfJoinsUptoSaid : Prop := utfJoinsUptoRow.holds Tryd.pinned (OpenSpec.upto utfJoinsSpec)

/-- 'quittancelaw09.UtfCuts', WHERE WHAT IT READS IS OF BULK AT MOST 1048576: true; the input reads as it did. -/
def utfCutsUptoRow : OpenClaim := { program := "ytkeiipnclkaeiaadoor", sum := "e15504eb209dc5c5e3468d99557eb1a34383506c53838a82a4c43788af081722", func := "quittance/quittancelaw09.UtfCuts", spec := "utfCuts", inPlace := ["internal/abi.NoEscape", "internal/bytealg.MakeNoZero"], named := ["quittance/utf.marks", "quittance/utf.least"], apart := false, laid := [("quittance/utf.least", laid_quittance_utf_least), ("quittance/utf.marks", laid_quittance_utf_marks)], narrowed := true }
def UtfCutsUptoSaid : Prop := utfCutsUptoRow.holds Tryd.pinned (OpenSpec.upto utfCutsSpec)

end Rows
end Go.Proofs.YtkeiipnclkaeiaaDoor
