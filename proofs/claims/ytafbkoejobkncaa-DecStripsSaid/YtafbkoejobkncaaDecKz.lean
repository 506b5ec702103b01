/-
  DecStrips answers true: all cases.
-/
import Derived.Test.YtafbkoejobkncaaDecK
import Derived.Test.YtafbkoejobkncaaDecK0
namespace Go.Proofs.Ytafbkoejobkncaa
open Go.RowKit

theorem strips5_any (b1 : Bool) (A1 : Option Addr) (n1 c1 : Nat) (xs1 : List Nat) (k1 : Int) (z : Int) (A : Option Addr) (n c : Nat) (r : Nat → Rw) (w : World) (h1 : Lim w w.heap.size A1 n1 c1 xs1) (gz1 : -9223372036854775808 ≤ z) (gz2 : z ≤ 9223372036854775807) (h : Raws w w.heap.size A n c r) :
    Calls Try.prog 6 #[.agg #[.bool b1, .slice A1 n1 c1, .int .i64 k1], .int .i64 z, .slice A n c] w (RetVal w (.bool true)) := by
  cases l1 : longB b1 n1 xs1 k1 with
  | true => exact strips_long b1 A1 n1 c1 xs1 k1 z A n c r w h1 h l1
  | false =>
    rcases Nat.lt_or_ge 20 n with hn | hn
    · exact strips_many b1 A1 n1 c1 xs1 k1 z A n c r w h1 h l1 hn
    · obtain ⟨i, s, rfl, rfl, rfl, m1, t1⟩ := of_long l1 h1
      rcases Nat.eq_zero_or_pos n with h0 | h0
      · exact strips_zero A1 n1 c1 s i z A n c r w h1 m1 t1 h hn h0 (Lib.hid ⟨gz1, gz2⟩)
      · exact strips_dec A1 n1 c1 s i z A n c r w h1 m1 t1 h hn h0 (Lib.hid ⟨gz1, gz2⟩)

end Go.Proofs.Ytafbkoejobkncaa
