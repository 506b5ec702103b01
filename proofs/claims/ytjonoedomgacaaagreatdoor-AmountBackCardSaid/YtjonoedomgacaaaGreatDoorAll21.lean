/- What the proof needs, texts LineD, LineE, in one text. -/
import Derived.Test.YtjonoedomgacaaaGreatDoorAll20
import Derived.Test.YtjonoedomgacaaaGreatDoorAll16
set_option linter.unusedVariables false
set_option linter.unusedSimpArgs false
set_option maxRecDepth 100000
set_option maxHeartbeats 32000000
namespace Go.Proofs.YtjonoedomgacaaaGreatDoor.Num
open Go.RowKit
section
variable {o : Oper} {ρ : Operand → Value} {x y : Operand} {w : World}
theorem e_cell {ty : TypeId} {g k : Nat} {v : Value} (ht : ty = 3 ∨ ty = 4 ∨ ty = 26) (h : o.op = .load ty x) (hx : ρ x = .pointer (some ⟨g, k, none⟩)) (hc : w.cell? ⟨g, k, none⟩ = some v) : (execOp ρ o).run Tryz.prog w = .ok (.value v) w := by
 unfold execOp; rw [h]
 simp only [hx]
 rcases ht with rfl | rfl | rfl <;> go_simp
end
section
variable {o : Oper} {ρ : Operand → Value} {x y : Operand} {w : World}
end
section
variable {P : Program} {ops : Array Oper} {Q : Exit → Act → World → Prop} {S : World → Prop} {N : Nat} {T : List Row3} {sts sos : List Spot3} (R : Reg ops T sts sos)
include R
end
end Go.Proofs.YtjonoedomgacaaaGreatDoor.Num
