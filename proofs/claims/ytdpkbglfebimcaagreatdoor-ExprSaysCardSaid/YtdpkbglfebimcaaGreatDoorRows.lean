/-
  NARROWER THAN 'FOR EVERY INPUT', by the rows' own cells (each row's printed sentence says how): ExprSays: laid · ExprValues: laid · ExprDeep: laid.
  DERIVED. THE GIVEN ROWS OF THIS SEAT. 3 by the template 'for every input the law returns true; each argument reads behind the call as it read before'; 0 by the template 'total and deterministic' (their statements: YtdpkbglfebimcaaGreatDoorTotals.lean).
  GIVEN WITH THE SEED: the statements are not yours to turn. If you find one false, say at which input.
  Laid BY PROGRAM, IN A SANDBOX (cutbox-rows.mjs): the forced cells as the released guide's own fill.sh prints them over the translation 621b52a09da22d71… (all of the seat's roots in one cut). By AI agents, Wed Nov 11 2026. No macro, syntax, notation, axiom, sorry.
-/
import Derived.Test.YtdpkbglfebimcaaGreatDoorChecked
import GoSem.PinnedTables
import GoSem.Claim
import GoSem.ClaimJoined
import GoSem.ClaimMapViews
import Derived.JoinedTies
import Derived.KernelRfl
namespace Go.Proofs.YtdpkbglfebimcaaGreatDoor
/- THE CELL 'sum', in the pinned program and in every row, IS THE sha256 OF THE DUMP (.gsa) THAT YtdpkbglfebimcaaGreatDoorProg.lean LOADS. Nothing in Lean hashes anything: it is a label: what it is worth is what the hold of that sum in a sandbox is worth. -/
noncomputable def Tryz.pinned : Pinned := { name := "ytdpkbglfebimcaagreatdoor", sum := "621b52a09da22d71e504734ea197e7ceeb06f420e3e5598c3950a3b94c95f874", checked := Tryz.checked }
namespace Rows
def none {H : Type} : Left H := { results := [], args := [] }

/- WHAT THE LISTED PACKAGE-LEVEL VARIABLES READ AS WHEN THE CALL BEGINS. Each datum BY PROGRAM (the guide's laid-datum.mjs) off the statement by which the dump's own 'gosem.cut.vars' lays the variable. In a bare row this is a premise. The card (YtdpkbglfebimcaaGreatDoorCards.lean) ties it to the program's text. -/
def laid_unicode_utf8_acceptRanges {H : Type} : DataW H := .agg [.agg [.lit (.int .u8 128), .lit (.int .u8 191)], .agg [.lit (.int .u8 160), .lit (.int .u8 191)], .agg [.lit (.int .u8 128), .lit (.int .u8 159)], .agg [.lit (.int .u8 144), .lit (.int .u8 191)], .agg [.lit (.int .u8 128), .lit (.int .u8 143)], .agg [.lit (.int .u8 0), .lit (.int .u8 0)], .agg [.lit (.int .u8 0), .lit (.int .u8 0)], .agg [.lit (.int .u8 0), .lit (.int .u8 0)], .agg [.lit (.int .u8 0), .lit (.int .u8 0)], .agg [.lit (.int .u8 0), .lit (.int .u8 0)], .agg [.lit (.int .u8 0), .lit (.int .u8 0)], .agg [.lit (.int .u8 0), .lit (.int .u8 0)], .agg [.lit (.int .u8 0), .lit (.int .u8 0)], .agg [.lit (.int .u8 0), .lit (.int .u8 0)], .agg [.lit (.int .u8 0), .lit (.int .u8 0)], .agg [.lit (.int .u8 0), .lit (.int .u8 0)]]
def laid_quittance_date_lengths {H : Type} : DataW H := .agg [.lit (.int .i64 31), .lit (.int .i64 28), .lit (.int .i64 31), .lit (.int .i64 30), .lit (.int .i64 31), .lit (.int .i64 30), .lit (.int .i64 31), .lit (.int .i64 31), .lit (.int .i64 30), .lit (.int .i64 31), .lit (.int .i64 30), .lit (.int .i64 31)]
def laid_quittance_name_roots {H : Type} : DataW H := .agg [.lit (.string [65, 115, 115, 101, 116, 115]), .lit (.string [76, 105, 97, 98, 105, 108, 105, 116, 105, 101, 115]), .lit (.string [69, 113, 117, 105, 116, 121]), .lit (.string [73, 110, 99, 111, 109, 101]), .lit (.string [69, 120, 112, 101, 110, 115, 101, 115])]
/-- One of Go's own tables, pinned by name: the form's constant. -/
def laid_unicode_utf8_first : DataW Unit := Go.Pinned.utf8First

/-- 'quittancelaw13.ExprSays': WHATEVER THE INPUT: true; the input reads as it did. -/
def exprSaysSpec : ChangeSpec := { name := "exprSays", fn := fun _ => fun
  | [d1, d2, d3] => { results := [.lit (.bool true)], args := [d1, d2, d3] }
  | _ => none }
def exprSaysRow : OpenClaim := { program := "ytdpkbglfebimcaagreatdoor", sum := "621b52a09da22d71e504734ea197e7ceeb06f420e3e5598c3950a3b94c95f874", func := "quittance/quittancelaw13.ExprSays", spec := "exprSays", inPlace := ["internal/bytealg.IndexByteString", "internal/abi.NoEscape", "internal/bytealg.IndexString", "internal/bytealg.CountString", "internal/bytealg.MakeNoZero"], unfollowed := true, recurses := true, named := ["quittance/date.lengths", "internal/bytealg.MaxLen", "unicode/utf8.first", "unicode/utf8.acceptRanges", "quittance/name.roots"], apart := false, laid := [("unicode/utf8.acceptRanges", laid_unicode_utf8_acceptRanges), ("quittance/date.lengths", laid_quittance_date_lengths), ("quittance/name.roots", laid_quittance_name_roots), ("unicode/utf8.first", laid_unicode_utf8_first)] }
def ExprSaysSaid : Prop := exprSaysRow.holds Tryz.pinned (OpenSpec.ofChange exprSaysSpec)

/-- ITS FALSE NEIGHBOUR: 'it returns false'. Refute it at one input. -/
def exprSaysWrong : ChangeSpec := { name := "exprSays", fn := fun _ => fun
  | [d1, d2, d3] => { results := [.lit (.bool false)], args := [d1, d2, d3] }
  | _ => none }
def ExprSaysWrongFalsely : Prop := exprSaysRow.holds Tryz.pinned (OpenSpec.ofChange exprSaysWrong)

/-- 'quittancelaw13.ExprValues': WHATEVER THE INPUT: true; the input reads as it did. -/
def exprValuesSpec : ChangeSpec := { name := "exprValues", fn := fun _ => fun
  | [d1, d2, d3] => { results := [.lit (.bool true)], args := [d1, d2, d3] }
  | _ => none }
def exprValuesRow : OpenClaim := { program := "ytdpkbglfebimcaagreatdoor", sum := "621b52a09da22d71e504734ea197e7ceeb06f420e3e5598c3950a3b94c95f874", func := "quittance/quittancelaw13.ExprValues", spec := "exprValues", inPlace := ["internal/bytealg.IndexByteString", "internal/abi.NoEscape", "internal/bytealg.IndexString", "internal/bytealg.CountString", "internal/bytealg.MakeNoZero"], unfollowed := true, recurses := true, named := ["quittance/date.lengths", "internal/bytealg.MaxLen", "unicode/utf8.first", "unicode/utf8.acceptRanges", "quittance/name.roots"], apart := false, laid := [("unicode/utf8.acceptRanges", laid_unicode_utf8_acceptRanges), ("quittance/date.lengths", laid_quittance_date_lengths), ("quittance/name.roots", laid_quittance_name_roots), ("unicode/utf8.first", laid_unicode_utf8_first)] }
def ExprValuesSaid : Prop := exprValuesRow.holds Tryz.pinned (OpenSpec.ofChange exprValuesSpec)

/-- ITS FALSE NEIGHBOUR: 'it returns false'. Refute it at one input. -/
def exprValuesWrong : ChangeSpec := { name := "exprValues", fn := fun _ => fun
  | [d1, d2, d3] => { results := [.lit (.bool false)], args := [d1, d2, d3] }
  | _ => none }
def ExprValuesWrongFalsely : Prop := exprValuesRow.holds Tryz.pinned (OpenSpec.ofChange exprValuesWrong)

/-- 'quittancelaw13.ExprDeep': WHATEVER THE INPUT: true; the input reads as it did. -/
def exprDeepSpec : ChangeSpec := { name := "exprDeep", fn := fun _ => fun
  | [d1, d2] => { results := [.lit (.bool true)], args := [d1, d2] }
  | _ => none }
def exprDeepRow : OpenClaim := { program := "ytdpkbglfebimcaagreatdoor", sum := "621b52a09da22d71e504734ea197e7ceeb06f420e3e5598c3950a3b94c95f874", func := "quittance/quittancelaw13.ExprDeep", spec := "exprDeep", inPlace := ["internal/bytealg.IndexByteString", "internal/abi.NoEscape", "internal/bytealg.IndexString", "internal/bytealg.CountString", "internal/bytealg.MakeNoZero"], unfollowed := true, recurses := true, named := ["quittance/date.lengths", "internal/bytealg.MaxLen", "unicode/utf8.first", "unicode/utf8.acceptRanges", "quittance/name.roots"], apart := false, laid := [("unicode/utf8.acceptRanges", laid_unicode_utf8_acceptRanges), ("quittance/date.lengths", laid_quittance_date_lengths), ("quittance/name.roots", laid_quittance_name_roots), ("unicode/utf8.first", laid_unicode_utf8_first)] }
def ExprDeepSaid : Prop := exprDeepRow.holds Tryz.pinned (OpenSpec.ofChange exprDeepSpec)

/-- ITS FALSE NEIGHBOUR: 'it returns false'. Refute it at one input. -/
def exprDeepWrong : ChangeSpec := { name := "exprDeep", fn := fun _ => fun
  | [d1, d2] => { results := [.lit (.bool false)], args := [d1, d2] }
  | _ => none }
def ExprDeepWrongFalsely : Prop := exprDeepRow.holds Tryz.pinned (OpenSpec.ofChange exprDeepWrong)

/- THE SECOND FORM. 'bulk': how many values and letters a reading holds, each counted each time it is reached (what is shared counts as often as it is met; a slice's spare places count too). A statement '..UptoSaid' is the law's where the arguments, and the package variables that the reading takes, are together of bulk at most 1048576: NARROWER than '..Said'. Prove '..Said' where nothing that the law and all that it calls make is longer than what came in: it says more and counts as full. Else prove '..UptoSaid'. A law counts once. -/
mutual
def uptoBulk {H : Type} : DataW H → Nat
  | .lit (.string bytes) => bytes.length + 1
  | .lit _ => 1
  | .nil => 1
  | .ptr d => uptoBulk d + 1
  | .slice elems spare => uptoBulkAll elems + uptoBulkAll spare + 1
  | .agg parts => uptoBulkAll parts + 1
  | .iface _ d => uptoBulk d + 1
  | .map entries => uptoBulkEntries entries + 1
  | .held _ => 1
def uptoBulkAll {H : Type} : List (DataW H) → Nat
  | [] => 0
  | d :: r => uptoBulk d + uptoBulkAll r
def uptoBulkEntries {H : Type} : List (Lit × DataW H) → Nat
  | [] => 0
  | x :: r => uptoBulkEntry x + uptoBulkEntries r
def uptoBulkEntry {H : Type} : Lit × DataW H → Nat
  | (.string bytes, d) => bytes.length + uptoBulk d + 1
  | (_, d) => uptoBulk d + 1
 end
def uptoSmall : (H : Type) → List (DataW H) → Bool := fun _ ds => decide (uptoBulkAll ds ≤ 1048576)
def OpenSpec.upto (s : _root_.Go.ChangeSpec) : _root_.Go.OpenSpec := { _root_.Go.OpenSpec.ofChange s with cond := some uptoSmall }

/-- 'quittancelaw13.ExprSays', WHERE WHAT IT READS IS OF BULK AT MOST 1048576: true; the input reads as it did. -/
def exprSaysUptoRow : OpenClaim := { program := "ytdpkbglfebimcaagreatdoor", sum := "621b52a09da22d71e504734ea197e7ceeb06f420e3e5598c3950a3b94c95f874", func := "quittance/quittancelaw13.ExprSays", spec := "exprSays", inPlace := ["internal/bytealg.IndexByteString", "internal/abi.NoEscape", "internal/bytealg.IndexString", "internal/bytealg.CountString", "internal/bytealg.MakeNoZero"], unfollowed := true, recurses := true, named := ["quittance/date.lengths", "internal/bytealg.MaxLen", "unicode/utf8.first", "unicode/utf8.acceptRanges", "quittance/name.roots"], apart := false, laid := [("unicode/utf8.acceptRanges", laid_unicode_utf8_acceptRanges), ("quittance/date.lengths", laid_quittance_date_lengths), ("quittance/name.roots", laid_quittance_name_roots), ("unicode/utf8.first", laid_unicode_utf8_first)], narrowed := true }
def ExprSaysUptoSaid : Prop := exprSaysUptoRow.holds Tryz.pinned (OpenSpec.upto exprSaysSpec)

/-- 'quittancelaw13.ExprValues', WHERE WHAT IT READS IS OF BULK AT MOST 1048576: true; the input reads as it did. -/
def exprValuesUptoRow : OpenClaim := { program := "ytdpkbglfebimcaagreatdoor", sum := "621b52a09da22d71e504734ea197e7ceeb06f420e3e5598c3950a3b94c95f874", func := "quittance/quittancelaw13.ExprValues", spec := "exprValues", inPlace := ["internal/bytealg.IndexByteString", "internal/abi.NoEscape", "internal/bytealg.IndexString", "internal/bytealg.CountString", "internal/bytealg.MakeNoZero"], unfollowed := true, recurses := true, named := ["quittance/date.lengths", "internal/bytealg.MaxLen", "unicode/utf8.first", "unicode/utf8.acceptRanges", "quittance/name.roots"], apart := false, laid := [("unicode/utf8.acceptRanges", laid_unicode_utf8_acceptRanges), ("quittance/date.lengths", laid_quittance_date_lengths), ("quittance/name.roots", laid_quittance_name_roots), ("unicode/utf8.first", laid_unicode_utf8_first)], narrowed := true }
def ExprValuesUptoSaid : Prop := exprValuesUptoRow.holds Tryz.pinned (OpenSpec.upto exprValuesSpec)

/-- 'quittancelaw13.ExprDeep', WHERE WHAT IT READS IS OF BULK AT MOST 1048576: true; the input reads as it did. -/
def exprDeepUptoRow : OpenClaim := { program := "ytdpkbglfebimcaagreatdoor", sum := "621b52a09da22d71e504734ea197e7ceeb06f420e3e5598c3950a3b94c95f874", func := "quittance/quittancelaw13.ExprDeep", spec := "exprDeep", inPlace := ["internal/bytealg.IndexByteString", "internal/abi.NoEscape", "internal/bytealg.IndexString", "internal/bytealg.CountString", "internal/bytealg.MakeNoZero"], unfollowed := true, recurses := true, named := ["quittance/date.lengths", "internal/bytealg.MaxLen", "unicode/utf8.first", "unicode/utf8.acceptRanges", "quittance/name.roots"], apart := false, laid := [("unicode/utf8.acceptRanges", laid_unicode_utf8_acceptRanges), ("quittance/date.lengths", laid_quittance_date_lengths), ("quittance/name.roots", laid_quittance_name_roots), ("unicode/utf8.first", laid_unicode_utf8_first)], narrowed := true }
def ExprDeepUptoSaid : Prop := exprDeepUptoRow.holds Tryz.pinned (OpenSpec.upto exprDeepSpec)

end Rows
end Go.Proofs.YtdpkbglfebimcaaGreatDoor
