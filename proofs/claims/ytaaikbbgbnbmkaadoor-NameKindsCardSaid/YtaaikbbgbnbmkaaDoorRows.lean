/-
  NARROWER THAN 'FOR EVERY INPUT', by the rows' own cells (each row's printed sentence says how): NameSays: laid · NameUnder: laid · NameKinds: laid · NameGlobs: laid.
  DERIVED. THE GIVEN ROWS OF THIS SEAT. 4 by the template 'for every input the law returns true; each argument reads behind the call as it read before'; 0 by the template 'total and deterministic' (their statements: YtaaikbbgbnbmkaaDoorTotals.lean).
  GIVEN WITH THE SEED: the statements are not yours to turn. If you find one false, say at which input.
  Laid BY PROGRAM, IN A SANDBOX (cutbox-rows.mjs): the forced cells as the released guide's own fill.sh prints them over the translation 2e81769b451ef198… (all of the seat's roots in one cut). By AI agents, Wed Nov 11 2026. No macro, syntax, notation, axiom, sorry.
-/
import Derived.Test.YtaaikbbgbnbmkaaDoorChecked
import GoSem.PinnedTables
import GoSem.Claim
import GoSem.ClaimJoined
import GoSem.ClaimMapViews
import Derived.JoinedTies
import Derived.KernelRfl
namespace Go.Proofs.YtaaikbbgbnbmkaaDoor
/- THE CELL 'sum', in the pinned program and in every row, IS THE sha256 OF THE DUMP (.gsa) THAT YtaaikbbgbnbmkaaDoorProg.lean LOADS. Nothing in Lean hashes anything: it is a label: what it is worth is what the hold of that sum in a sandbox is worth. -/
noncomputable def Tryd.pinned : Pinned := { name := "ytaaikbbgbnbmkaadoor", sum := "2e81769b451ef19842fda55a710e2839b26a6b06cbd65dddfe79ada2ee6f2ab6", checked := Tryd.checked }
namespace Rows
def none {H : Type} : Left H := { results := [], args := [] }

/- WHAT THE LISTED PACKAGE-LEVEL VARIABLES READ AS WHEN THE CALL BEGINS. Each datum BY PROGRAM (the guide's laid-datum.mjs) off the statement by which the dump's own 'gosem.cut.vars' lays the variable. In a bare row this is a premise. The card (YtaaikbbgbnbmkaaDoorCards.lean) ties it to the program's text. -/
def laid_unicode_utf8_acceptRanges {H : Type} : DataW H := .agg [.agg [.lit (.int .u8 128), .lit (.int .u8 191)], .agg [.lit (.int .u8 160), .lit (.int .u8 191)], .agg [.lit (.int .u8 128), .lit (.int .u8 159)], .agg [.lit (.int .u8 144), .lit (.int .u8 191)], .agg [.lit (.int .u8 128), .lit (.int .u8 143)], .agg [.lit (.int .u8 0), .lit (.int .u8 0)], .agg [.lit (.int .u8 0), .lit (.int .u8 0)], .agg [.lit (.int .u8 0), .lit (.int .u8 0)], .agg [.lit (.int .u8 0), .lit (.int .u8 0)], .agg [.lit (.int .u8 0), .lit (.int .u8 0)], .agg [.lit (.int .u8 0), .lit (.int .u8 0)], .agg [.lit (.int .u8 0), .lit (.int .u8 0)], .agg [.lit (.int .u8 0), .lit (.int .u8 0)], .agg [.lit (.int .u8 0), .lit (.int .u8 0)], .agg [.lit (.int .u8 0), .lit (.int .u8 0)], .agg [.lit (.int .u8 0), .lit (.int .u8 0)]]
def laid_quittance_name_roots {H : Type} : DataW H := .agg [.lit (.string [65, 115, 115, 101, 116, 115]), .lit (.string [76, 105, 97, 98, 105, 108, 105, 116, 105, 101, 115]), .lit (.string [69, 113, 117, 105, 116, 121]), .lit (.string [73, 110, 99, 111, 109, 101]), .lit (.string [69, 120, 112, 101, 110, 115, 101, 115])]
/-- One of Go's own tables, pinned by name: the form's constant. -/
def laid_unicode_utf8_first : DataW Unit := Go.Pinned.utf8First

/-- 'quittancelaw11.NameSays': WHATEVER THE INPUT: true; the input reads as it did. -/
def nameSaysSpec : ChangeSpec := { name := "nameSays", fn := fun _ => fun
  | [d1, d2] => { results := [.lit (.bool true)], args := [d1, d2] }
  | _ => none }
def nameSaysRow : OpenClaim := { program := "ytaaikbbgbnbmkaadoor", sum := "2e81769b451ef19842fda55a710e2839b26a6b06cbd65dddfe79ada2ee6f2ab6", func := "quittance/quittancelaw11.NameSays", spec := "nameSays", inPlace := ["internal/bytealg.IndexByteString", "internal/bytealg.IndexString", "internal/bytealg.CountString"], named := ["internal/bytealg.MaxLen", "quittance/name.roots", "unicode/utf8.first", "unicode/utf8.acceptRanges"], apart := false, laid := [("unicode/utf8.acceptRanges", laid_unicode_utf8_acceptRanges), ("quittance/name.roots", laid_quittance_name_roots), ("unicode/utf8.first", laid_unicode_utf8_first)] }
def NameSaysSaid : Prop := nameSaysRow.holds Tryd.pinned (OpenSpec.ofChange nameSaysSpec)

/-- ITS FALSE NEIGHBOUR: 'it returns false'. Refute it at one input. -/
def nameSaysWrong : ChangeSpec := { name := "nameSays", fn := fun _ => fun
  | [d1, d2] => { results := [.lit (.bool false)], args := [d1, d2] }
  | _ => none }
def NameSaysWrongFalsely : Prop := nameSaysRow.holds Tryd.pinned (OpenSpec.ofChange nameSaysWrong)

/-- 'quittancelaw11.NameUnder': WHATEVER THE INPUT: true; the input reads as it did. -/
def nameUnderSpec : ChangeSpec := { name := "nameUnder", fn := fun _ => fun
  | [d1, d2, d3] => { results := [.lit (.bool true)], args := [d1, d2, d3] }
  | _ => none }
def nameUnderRow : OpenClaim := { program := "ytaaikbbgbnbmkaadoor", sum := "2e81769b451ef19842fda55a710e2839b26a6b06cbd65dddfe79ada2ee6f2ab6", func := "quittance/quittancelaw11.NameUnder", spec := "nameUnder", inPlace := ["internal/bytealg.IndexByteString", "internal/bytealg.IndexString", "internal/bytealg.CountString"], named := ["internal/bytealg.MaxLen", "quittance/name.roots", "unicode/utf8.first", "unicode/utf8.acceptRanges"], apart := false, laid := [("unicode/utf8.acceptRanges", laid_unicode_utf8_acceptRanges), ("quittance/name.roots", laid_quittance_name_roots), ("unicode/utf8.first", laid_unicode_utf8_first)] }
def NameUnderSaid : Prop := nameUnderRow.holds Tryd.pinned (OpenSpec.ofChange nameUnderSpec)

/-- ITS FALSE NEIGHBOUR: 'it returns false'. Refute it at one input. -/
def nameUnderWrong : ChangeSpec := { name := "nameUnder", fn := fun _ => fun
  | [d1, d2, d3] => { results := [.lit (.bool false)], args := [d1, d2, d3] }
  | _ => none }
def NameUnderWrongFalsely : Prop := nameUnderRow.holds Tryd.pinned (OpenSpec.ofChange nameUnderWrong)

/-- 'quittancelaw11.NameKinds': WHATEVER THE INPUT: true; the input reads as it did. -/
def nameKindsSpec : ChangeSpec := { name := "nameKinds", fn := fun _ => fun
  | [d1, d2] => { results := [.lit (.bool true)], args := [d1, d2] }
  | _ => none }
def nameKindsRow : OpenClaim := { program := "ytaaikbbgbnbmkaadoor", sum := "2e81769b451ef19842fda55a710e2839b26a6b06cbd65dddfe79ada2ee6f2ab6", func := "quittance/quittancelaw11.NameKinds", spec := "nameKinds", inPlace := ["internal/bytealg.IndexByteString", "internal/bytealg.IndexString", "internal/bytealg.CountString"], named := ["internal/bytealg.MaxLen", "quittance/name.roots", "unicode/utf8.first", "unicode/utf8.acceptRanges"], apart := false, laid := [("unicode/utf8.acceptRanges", laid_unicode_utf8_acceptRanges), ("quittance/name.roots", laid_quittance_name_roots), ("unicode/utf8.first", laid_unicode_utf8_first)] }
def NameKindsSaid : Prop := nameKindsRow.holds Tryd.pinned (OpenSpec.ofChange nameKindsSpec)

/-- ITS FALSE NEIGHBOUR: 'it returns false'. Refute it at one input. -/
def nameKindsWrong : ChangeSpec := { name := "nameKinds", fn := fun _ => fun
  | [d1, d2] => { results := [.lit (.bool false)], args := [d1, d2] }
  | _ => none }
def NameKindsWrongFalsely : Prop := nameKindsRow.holds Tryd.pinned (OpenSpec.ofChange nameKindsWrong)

/-- 'quittancelaw11.NameGlobs': WHATEVER THE INPUT: true; the input reads as it did. -/
def nameGlobsSpec : ChangeSpec := { name := "nameGlobs", fn := fun _ => fun
  | [d1, d2, d3] => { results := [.lit (.bool true)], args := [d1, d2, d3] }
  | _ => none }
def nameGlobsRow : OpenClaim := { program := "ytaaikbbgbnbmkaadoor", sum := "2e81769b451ef19842fda55a710e2839b26a6b06cbd65dddfe79ada2ee6f2ab6", func := "quittance/quittancelaw11.NameGlobs", spec := "nameGlobs", inPlace := ["internal/bytealg.IndexByteString", "internal/bytealg.IndexString", "internal/bytealg.CountString"], named := ["internal/bytealg.MaxLen", "quittance/name.roots", "unicode/utf8.first", "unicode/utf8.acceptRanges"], apart := false, laid := [("unicode/utf8.acceptRanges", laid_unicode_utf8_acceptRanges), ("quittance/name.roots", laid_quittance_name_roots), ("unicode/utf8.first", laid_unicode_utf8_first)] }
def NameGlobsSaid : Prop := nameGlobsRow.holds Tryd.pinned (OpenSpec.ofChange nameGlobsSpec)

/-- ITS FALSE NEIGHBOUR: 'it returns false'. Refute it at one input. -/
def nameGlobsWrong : ChangeSpec := { name := "nameGlobs", fn := fun _ => fun
  | [d1, d2, d3] => { results := [.lit (.bool false)], args := [d1, d2, d3] }
  | _ => none }
def NameGlobsWrongFalsely : Prop := nameGlobsRow.holds Tryd.pinned (OpenSpec.ofChange nameGlobsWrong)

/- THE SECOND FORM. 'bulk': how many values and letters a reading holds, each counted each time it is reached (what is shared counts as often as it is met; a slice's spare places count too). A statement '..UptoSaid' is the law's where the arguments, and the package variables that the reading takes, are together of bulk at most 1048576: NARROWER than '..Said'. Prove '..Said' where nothing that the law and all that it calls make is longer than what came in: it says more and counts as full. Else prove '..UptoSaid'. A law counts once. -/
mutual
def uptoBulk {H : Type} : DataW H → Nat
  | .lit (.string bytes) => bytes.length + 1
  | .lit _ => 1
  | .nil => 1
  | .ptr d => uptoBulk d + 1
  | .slice elems spare => uptoBulkAll elems + uptoBulkAll spare + 1
  | .agg parts => uptoBulkAll parts + 1
  | .iface _ d => uptoBulk d + 1
  | .map entries => uptoBulkEntries entries + 1
  | .held _ => 1
def uptoBulkAll {H : Type} : List (DataW H) → Nat
  | [] => 0
  | d :: r => uptoBulk d + uptoBulkAll r
def uptoBulkEntries {H : Type} : List (Lit × DataW H) → Nat
  | [] => 0
  | x :: r => uptoBulkEntry x + uptoBulkEntries r
def uptoBulkEntry {H : Type} : Lit × DataW H → Nat
  | (.string bytes, d) => bytes.length + uptoBulk d + 1
  | (_, d) => uptoBulk d + 1
 end
def uptoSmall : (H : Type) → List (DataW H) → Bool := fun _ ds => decide (uptoBulkAll ds ≤ 1048576)
def OpenSpec.upto (s : _root_.Go.ChangeSpec) : _root_.Go.OpenSpec := { _root_.Go.OpenSpec.ofChange s with cond := some uptoSmall }

/-- 'quittancelaw11.NameSays', WHERE WHAT IT READS IS OF BULK AT MOST 1048576: true; the input reads as it did. -/
def nameSaysUptoRow : OpenClaim := { program := "ytaaikbbgbnbmkaadoor", sum := "2e81769b451ef19842fda55a710e2839b26a6b06cbd65dddfe79ada2ee6f2ab6", func := "quittance/quittancelaw11.NameSays", spec := "nameSays", inPlace := ["internal/bytealg.IndexByteString", "internal/bytealg.IndexString", "internal/bytealg.CountString"], named := ["internal/bytealg.MaxLen", "quittance/name.roots", "unicode/utf8.first", "unicode/utf8.acceptRanges"], apart := false, laid := [("unicode/utf8.acceptRanges", laid_unicode_utf8_acceptRanges), ("quittance/name.roots", laid_quittance_name_roots), ("unicode/utf8.first", laid_unicode_utf8_first)], narrowed := true }
def NameSaysUptoSaid : Prop := nameSaysUptoRow.holds Tryd.pinned (OpenSpec.upto nameSaysSpec)

/-- 'quittancelaw11.NameUnder', WHERE WHAT IT READS IS OF BULK AT MOST 1048576: true; the input reads as it did. -/
def nameUnderUptoRow : OpenClaim := { program := "ytaaikbbgbnbmkaadoor", sum := "2e81769b451ef19842fda55a710e2839b26a6b06cbd65dddfe79ada2ee6f2ab6", func := "quittance/quittancelaw11.NameUnder", spec := "nameUnder", inPlace := ["internal/bytealg.IndexByteString", "internal/bytealg.IndexString", "internal/bytealg.CountString"], named := ["internal/bytealg.MaxLen", "quittance/name.roots", "unicode/utf8.first", "unicode/utf8.acceptRanges"], apart := false, laid := [("unicode/utf8.acceptRanges", laid_unicode_utf8_acceptRanges), ("quittance/name.roots", laid_quittance_name_roots), ("unicode/utf8.first", laid_unicode_utf8_first)], narrowed := true }
def NameUnderUptoSaid : Prop := nameUnderUptoRow.holds Tryd.pinned (OpenSpec.upto nameUnderSpec)

/-- 'quittancelaw11.NameKinds', WHERE WHAT IT READS IS OF BULK AT MOST 1048576: true; the input reads as it did. -/
def nameKindsUptoRow : OpenClaim := { program := "ytaaikbbgbnbmkaadoor", sum := "2e81769b451ef19842fda55a710e2839b26a6b06cbd65dddfe79ada2ee6f2ab6", func := "quittance/quittancelaw11.NameKinds", spec := "nameKinds", inPlace := ["internal/bytealg.IndexByteString", "internal/bytealg.IndexString", "internal/bytealg.CountString"], named := ["internal/bytealg.MaxLen", "quittance/name.roots", "unicode/utf8.first", "unicode/utf8.acceptRanges"], apart := false, laid := [("unicode/utf8.acceptRanges", laid_unicode_utf8_acceptRanges), ("quittance/name.roots", laid_quittance_name_roots), ("unicode/utf8.first", laid_unicode_utf8_first)], narrowed := true }
def NameKindsUptoSaid : Prop := nameKindsUptoRow.holds Tryd.pinned (OpenSpec.upto nameKindsSpec)

/-- 'quittancelaw11.NameGlobs', WHERE WHAT IT READS IS OF BULK AT MOST 1048576: true; the input reads as it did. -/
def nameGlobsUptoRow : OpenClaim := { program := "ytaaikbbgbnbmkaadoor", sum := "2e81769b451ef19842fda55a710e2839b26a6b06cbd65dddfe79ada2ee6f2ab6", func := "quittance/quittancelaw11.NameGlobs", spec := "nameGlobs", inPlace := ["internal/bytealg.IndexByteString", "internal/bytealg.IndexString", "internal/bytealg.CountString"], named := ["internal/bytealg.MaxLen", "quittance/name.roots", "unicode/utf8.first", "unicode/utf8.acceptRanges"], apart := false, laid := [("unicode/utf8.acceptRanges", laid_unicode_utf8_acceptRanges), ("quittance/name.roots", laid_quittance_name_roots), ("unicode/utf8.first", laid_unicode_utf8_first)], narrowed := true }
def NameGlobsUptoSaid : Prop := nameGlobsUptoRow.holds Tryd.pinned (OpenSpec.upto nameGlobsSpec)

end Rows
end Go.Proofs.YtaaikbbgbnbmkaaDoor
