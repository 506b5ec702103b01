/- What the proofs of this layer need of the layer Dec, in one text. -/
import Derived.Test.YthlhpgphmfnlgaaGreatAllDecD
import Derived.Test.YthlhpgphmfnlgaaGreatLineE
set_option maxRecDepth 100000
set_option maxHeartbeats 32000000
set_option linter.unusedVariables false
set_option linter.unusedSimpArgs false
/-
 What DecSays and its like need beside: two integers in a block, tests of truth values, the last ten bits.
-/
namespace Go.Proofs.YthlhpgphmfnlgaaGreat
open Go.RowKit
structure Two (v : World) (g : Nat) (y z : Int) : Prop where
 c0 : v.cell? ⟨g, 0, none⟩ = some (.int .i64 y)
 c1 : v.cell? ⟨g, 1, none⟩ = some (.int .i64 z)
 lt : g < v.heap.size
section
variable {o : Oper} {ρ : Operand → Value} {x y : Operand} {w : World}
end
theorem mk5_is {i : Int} {s : Nat} (w : World) (h1 : -9223372036854775808 ≤ i) (h2 : i ≤ 9223372036854775807) (hs : s ≤ 1023) : Calls Tryz.prog 15 #[.int .i64 i, .int .i64 (s : Int)] w (RetDec w i s) := mk5_any i s w h1 h2 (by omega)
theorem refmk5_is {i : Int} {s : Nat} (w : World) (h1 : -9223372036854775808 ≤ i) (h2 : i ≤ 9223372036854775807) (hs : s ≤ 1023) : Calls Tryz.prog 38 #[.int .i64 i, .int .i64 (s : Int)] w (RetDec w i s) := refMk5_any i s w h1 h2 (by omega)
end Go.Proofs.YthlhpgphmfnlgaaGreat
