/-
  The law's own examples of layer 2 (awake) answer true, whatever the memory.
-/
import Derived.Test.YtecgmdomhbmbkaaDoorMulE
namespace Go.Proofs.YtecgmdomhbmbkaaDoor
open Go.RowKit

def p1 : Nat := 999999999
def p2 : Nat := 999999998000000001
def p3 : Nat := 18446744073709551616
def p4 : Nat := 10000000000
def p5 : Nat := 7000
theorem dg_p2 : dg p2 = [1, 999999998] := by unfold p2; rw [dg_pos (by omega), dg_pos (by omega), dg_zero]
theorem dg_p4 : dg p4 = [0, 10] := by unfold p4; rw [dg_pos (by omega), dg_pos (by omega), dg_zero]
theorem Env.pushsub {w0 w w' : World} {l : List (Option Addr × Nat × Nat × Nat)} (h : Hid (Env w0 w l)) (hb : Below w.heap.size w w') {A : Option Addr} {n c a : Nat} (hn : Num w' w'.heap.size A n c a) : Hid (Env w0 w' ((A, n, c, a) :: l)) := Env.push h hb hn

end Go.Proofs.YtecgmdomhbmbkaaDoor
