/- What the proofs of this layer need of the layer Dig, in one text. -/
import Derived.Test.YtjkandnbjbfeiaaDoorAllDigE
import Derived.Deep.RegionWith
import Derived.IntWalk
import Derived.Test.YtjkandnbjbfeiaaDoorAllDigD
set_option linter.unusedVariables false
set_option linter.unusedSimpArgs false

/-
  Contracts of layer 4, the sixth part: the document's Parse, Drop.
-/
namespace Go.Proofs.YtjkandnbjbfeiaaDoor.Num
open Go.RowKit

theorem pv_len {l : List Nat} (h : digs l) : (dg (pv l)).length ≤ l.length :=
  dg_len_le (Nat.lt_of_lt_of_le (pv_lt h) (Nat.pow_le_pow_left (by omega) _))

theorem Env.one4 {w : World} {A1 : Option Addr} {n1 c1 a : Nat} (h1 : Num w w.heap.size A1 n1 c1 a) : Hid (Env w w [(A1, n1, c1, a)]) := by
  refine ⟨Below.refl _ _, fun q hq => ?_⟩
  rcases List.mem_cons.1 hq with rfl | hq
  · exact h1
  · cases hq
theorem len_of_le {w : World} {B n c a m : Nat} {A : Option Addr} (h : Num w B A n c a) (ha : (dg a).length ≤ m) : n ≤ m := by rw [← h.len]; exact ha
theorem dg_len_ten {x n : Nat} (h : (dg x).length ≤ n) : (dg (x * 10)).length ≤ n + 1 := by
  have := dg_len_mul x 10
  have e : (dg 10).length = 1 := by rw [dg_pos (by omega), dg_zero]; rfl
  omega

theorem u8_u64 {d : Nat} (h : d ≤ 9) : IntKind.u64.wrap (IntKind.u8.wrap (d : Int)) = (d : Int) := by
  have e : IntKind.u8.wrap (d : Int) = (d : Int) := IntWalk.u8_in _ ⟨by omega, by omega⟩
  rw [e]; exact u64_same (by omega)

theorem str_take (l : List Nat) (k : Nat) : (str l).extract 0 k = str (l.take k) := by
  unfold str
  rw [ByteArray.extract_mk]
  simp

end Go.Proofs.YtjkandnbjbfeiaaDoor.Num

/-
  The walk of the law DigitsSays.
-/
namespace Go.Proofs.YtjkandnbjbfeiaaDoor.Num
open Go.RowKit

end Go.Proofs.YtjkandnbjbfeiaaDoor.Num
