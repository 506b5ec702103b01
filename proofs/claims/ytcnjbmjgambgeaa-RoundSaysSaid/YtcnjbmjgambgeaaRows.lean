/-
  No cell of these rows narrows 'for every input' (looked for: loops, veiled, ifaces, maps, wideKeys, modest, calm, conditions, laid).
  DERIVED. THE GIVEN ROWS OF THIS SEAT. 4 by the template 'for every input the law returns true; each argument reads behind the call as it read before'; 0 by the template 'total and deterministic' (their statements: YtcnjbmjgambgeaaTotals.lean).
  GIVEN WITH THE SEED: the statements are not yours to turn. If you find one false, say at which input.
  Laid BY PROGRAM, IN A SANDBOX (cutbox-rows.mjs): the forced cells as the released guide's own fill.sh prints them over the translation aa133d79ff34f0f4… (all of the seat's roots in one cut). By AI agents, Wed Nov 11 2026. No macro, syntax, notation, axiom, sorry.
-/
import Derived.Test.YtcnjbmjgambgeaaChecked
import GoSem.Claim
import GoSem.ClaimJoined
import GoSem.ClaimMapViews
import Derived.JoinedTies
import Derived.KernelRfl
namespace Go.Proofs.Ytcnjbmjgambgeaa
/- THE CELL 'sum', in the pinned program and in every row, IS THE sha256 OF THE DUMP (.gsa) THAT YtcnjbmjgambgeaaProg.lean LOADS. Nothing in Lean hashes anything: it is a label: what it is worth is what the hold of that sum in a sandbox is worth. -/
noncomputable def Try.pinned : Pinned := { name := "ytcnjbmjgambgeaa", sum := "aa133d79ff34f0f4f4779c2f9e2cae63c1de0b92d375ffb8caf269e71202323a", checked := Try.checked }
namespace Rows
def none {H : Type} : Left H := { results := [], args := [] }

/-- 'quittancelaw06.RoundSays': WHATEVER THE INPUT: true; the input reads as it did. -/
def roundSaysSpec : ChangeSpec := { name := "roundSays", fn := fun _ => fun
  | [d1, d2, d3] => { results := [.lit (.bool true)], args := [d1, d2, d3] }
  | _ => none }
def roundSaysRow : OpenClaim := { program := "ytcnjbmjgambgeaa", sum := "aa133d79ff34f0f4f4779c2f9e2cae63c1de0b92d375ffb8caf269e71202323a", func := "quittance/quittancelaw06.RoundSays", spec := "roundSays", unfollowed := true, recurses := true, apart := false }
def RoundSaysSaid : Prop := roundSaysRow.holds Try.pinned (OpenSpec.ofChange roundSaysSpec)

/-- ITS FALSE NEIGHBOUR: 'it returns false'. Refute it at one input. -/
def roundSaysWrong : ChangeSpec := { name := "roundSays", fn := fun _ => fun
  | [d1, d2, d3] => { results := [.lit (.bool false)], args := [d1, d2, d3] }
  | _ => none }
def RoundSaysWrongFalsely : Prop := roundSaysRow.holds Try.pinned (OpenSpec.ofChange roundSaysWrong)

/-- 'quittancelaw06.RoundNear': WHATEVER THE INPUT: true; the input reads as it did. -/
def roundNearSpec : ChangeSpec := { name := "roundNear", fn := fun _ => fun
  | [d1, d2] => { results := [.lit (.bool true)], args := [d1, d2] }
  | _ => none }
def roundNearRow : OpenClaim := { program := "ytcnjbmjgambgeaa", sum := "aa133d79ff34f0f4f4779c2f9e2cae63c1de0b92d375ffb8caf269e71202323a", func := "quittance/quittancelaw06.RoundNear", spec := "roundNear", unfollowed := true, recurses := true, apart := false }
def RoundNearSaid : Prop := roundNearRow.holds Try.pinned (OpenSpec.ofChange roundNearSpec)

/-- ITS FALSE NEIGHBOUR: 'it returns false'. Refute it at one input. -/
def roundNearWrong : ChangeSpec := { name := "roundNear", fn := fun _ => fun
  | [d1, d2] => { results := [.lit (.bool false)], args := [d1, d2] }
  | _ => none }
def RoundNearWrongFalsely : Prop := roundNearRow.holds Try.pinned (OpenSpec.ofChange roundNearWrong)

/-- 'quittancelaw06.RoundDivides': WHATEVER THE INPUT: true; the input reads as it did. -/
def roundDividesSpec : ChangeSpec := { name := "roundDivides", fn := fun _ => fun
  | [d1, d2, d3] => { results := [.lit (.bool true)], args := [d1, d2, d3] }
  | _ => none }
def roundDividesRow : OpenClaim := { program := "ytcnjbmjgambgeaa", sum := "aa133d79ff34f0f4f4779c2f9e2cae63c1de0b92d375ffb8caf269e71202323a", func := "quittance/quittancelaw06.RoundDivides", spec := "roundDivides", unfollowed := true, recurses := true, apart := false }
def RoundDividesSaid : Prop := roundDividesRow.holds Try.pinned (OpenSpec.ofChange roundDividesSpec)

/-- ITS FALSE NEIGHBOUR: 'it returns false'. Refute it at one input. -/
def roundDividesWrong : ChangeSpec := { name := "roundDivides", fn := fun _ => fun
  | [d1, d2, d3] => { results := [.lit (.bool false)], args := [d1, d2, d3] }
  | _ => none }
def RoundDividesWrongFalsely : Prop := roundDividesRow.holds Try.pinned (OpenSpec.ofChange roundDividesWrong)

/-- 'quittancelaw06.RoundWhole': WHATEVER THE INPUT: true; the input reads as it did. -/
def roundWholeSpec : ChangeSpec := { name := "roundWhole", fn := fun _ => fun
  | [d1, d2, d3] => { results := [.lit (.bool true)], args := [d1, d2, d3] }
  | _ => none }
def roundWholeRow : OpenClaim := { program := "ytcnjbmjgambgeaa", sum := "aa133d79ff34f0f4f4779c2f9e2cae63c1de0b92d375ffb8caf269e71202323a", func := "quittance/quittancelaw06.RoundWhole", spec := "roundWhole", unfollowed := true, recurses := true, apart := false }
def RoundWholeSaid : Prop := roundWholeRow.holds Try.pinned (OpenSpec.ofChange roundWholeSpec)

/-- ITS FALSE NEIGHBOUR: 'it returns false'. Refute it at one input. -/
def roundWholeWrong : ChangeSpec := { name := "roundWhole", fn := fun _ => fun
  | [d1, d2, d3] => { results := [.lit (.bool false)], args := [d1, d2, d3] }
  | _ => none }
def RoundWholeWrongFalsely : Prop := roundWholeRow.holds Try.pinned (OpenSpec.ofChange roundWholeWrong)

/- THE SECOND FORM. 'bulk': how many values and letters a reading holds, each counted each time it is reached (what is shared counts as often as it is met; a slice's spare places count too). A statement '..UptoSaid' is the law's where the arguments, and the package variables that the reading takes, are together of bulk at most 1048576: NARROWER than '..Said'. Prove '..Said' where nothing that the law and all that it calls make is longer than what came in: it says more and counts as full. Else prove '..UptoSaid'. A law counts once. -/
mutual
def uptoBulk {H : Type} : DataW H → Nat
  | .lit (.string bytes) => bytes.length + 1
  | .lit _ => 1
  | .nil => 1
  | .ptr d => uptoBulk d + 1
  | .slice elems spare => uptoBulkAll elems + uptoBulkAll spare + 1
  | .agg parts => uptoBulkAll parts + 1
  | .iface _ d => uptoBulk d + 1
  | .map entries => uptoBulkEntries entries + 1
  | .held _ => 1
def uptoBulkAll {H : Type} : List (DataW H) → Nat
  | [] => 0
  | d :: r => uptoBulk d + uptoBulkAll r
def uptoBulkEntries {H : Type} : List (Lit × DataW H) → Nat
  | [] => 0
  | x :: r => uptoBulkEntry x + uptoBulkEntries r
def uptoBulkEntry {H : Type} : Lit × DataW H → Nat
  | (.string bytes, d) => bytes.length + uptoBulk d + 1
  | (_, d) => uptoBulk d + 1
 end
def uptoSmall : (H : Type) → List (DataW H) → Bool := fun _ ds => decide (uptoBulkAll ds ≤ 1048576)
def OpenSpec.upto (s : _root_.Go.ChangeSpec) : _root_.Go.OpenSpec := { _root_.Go.OpenSpec.ofChange s with cond := some uptoSmall }

/-- 'quittancelaw06.RoundSays', WHERE WHAT IT READS IS OF BULK AT MOST 1048576: true; the input reads as it did. -/
def roundSaysUptoRow : OpenClaim := { program := "ytcnjbmjgambgeaa", sum := "aa133d79ff34f0f4f4779c2f9e2cae63c1de0b92d375ffb8caf269e71202323a", func := "quittance/quittancelaw06.RoundSays", spec := "roundSays", unfollowed := true, recurses := true, apart := false, narrowed := true }
def RoundSaysUptoSaid : Prop := roundSaysUptoRow.holds Try.pinned (OpenSpec.upto roundSaysSpec)

/-- 'quittancelaw06.RoundNear', WHERE WHAT IT READS IS OF BULK AT MOST 1048576: true; the input reads as it did. -/
def roundNearUptoRow : OpenClaim := { program := "ytcnjbmjgambgeaa", sum := "aa133d79ff34f0f4f4779c2f9e2cae63c1de0b92d375ffb8caf269e71202323a", func := "quittance/quittancelaw06.RoundNear", spec := "roundNear", unfollowed := true, recurses := true, apart := false, narrowed := true }
def RoundNearUptoSaid : Prop := roundNearUptoRow.holds Try.pinned (OpenSpec.upto roundNearSpec)

/-- 'quittancelaw06.RoundDivides', WHERE WHAT IT READS IS OF BULK AT MOST 1048576: true; the input reads as it did. -/
def roundDividesUptoRow : OpenClaim := { program := "ytcnjbmjgambgeaa", sum := "aa133d79ff34f0f4f4779c2f9e2cae63c1de0b92d375ffb8caf269e71202323a", func := "quittance/quittancelaw06.RoundDivides", spec := "roundDivides", unfollowed := true, recurses := true, apart := false, narrowed := true }
def RoundDividesUptoSaid : Prop := roundDividesUptoRow.holds Try.pinned (OpenSpec.upto roundDividesSpec)

/-- 'quittancelaw06.RoundWhole', WHERE WHAT IT READS IS OF BULK AT MOST 1048576: true; the input reads as it did. -/
def roundWholeUptoRow : OpenClaim := { program := "ytcnjbmjgambgeaa", sum := "aa133d79ff34f0f4f4779c2f9e2cae63c1de0b92d375ffb8caf269e71202323a", func := "quittance/quittancelaw06.RoundWhole", spec := "roundWhole", unfollowed := true, recurses := true, apart := false, narrowed := true }
def RoundWholeUptoSaid : Prop := roundWholeUptoRow.holds Try.pinned (OpenSpec.upto roundWholeSpec)

end Rows
end Go.Proofs.Ytcnjbmjgambgeaa
