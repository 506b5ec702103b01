/-
 What comparisons of integers yield.
-/
import Derived.Test.YthlhpgphmfnlgaaGreatLineD
set_option maxRecDepth 100000
set_option maxHeartbeats 32000000
set_option linter.unusedVariables false
set_option linter.unusedSimpArgs false
namespace Go.Proofs.YthlhpgphmfnlgaaGreat
open Go.RowKit
section
variable {o : Oper} {ρ : Operand → Value} {x y : Operand} {w : World}
theorem e_gtr {i j : Int} {t t' : TypeId} (h : o.op = .binOp .gtr t x y t') (hx : ρ x = .int .i64 i) (hy : ρ y = .int .i64 j) : (execOp ρ o).run Tryz.prog w = .ok (.value (.bool (decide (j < i)))) w := by
 unfold execOp; rw [h]
 simp only [hx, hy]
 go_simp
end
section
variable {P : Program} {ops : Array Oper} {Q : Exit → Act → World → Prop} {S : World → Prop} {N : Nat} {T : List Row3} {sts sos : List Spot3} (R : Reg ops T sts sos)
include R
end
end Go.Proofs.YthlhpgphmfnlgaaGreat
