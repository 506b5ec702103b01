/- Lemmas of the proof: LineD, LineE. -/
import Derived.Test.YtpbbolgnnegmlaaGreatDoorAll20
import Derived.Test.YtpbbolgnnegmlaaGreatDoorAll15
set_option linter.unusedVariables false
set_option linter.unusedSimpArgs false
set_option maxRecDepth 100000
set_option maxHeartbeats 32000000
namespace Go.Proofs.YtpbbolgnnegmlaaGreatDoor.Num
open Go.RowKit
section
variable {o:Oper}{ρ:Operand→Value}{x y:Operand}{w:World}
theorem e_cell{ty:TypeId}{g k:Nat}{v:Value}(ht:ty=3∨ty=4∨ty=34)(h:o.op=.load ty x)(hx:ρ x=.pointer (some ⟨g,k,none⟩))(hc:w.cell? ⟨g,k,none⟩=some v):(execOp ρ o).run Tryz.prog w=.ok (.value v) w:=by
 unfold execOp;rw[h];simp only[hx]
 rcases ht with rfl|rfl|rfl<;>go_simp
end
end Go.Proofs.YtpbbolgnnegmlaaGreatDoor.Num
