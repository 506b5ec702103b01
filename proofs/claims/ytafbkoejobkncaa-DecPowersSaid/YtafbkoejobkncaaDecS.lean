/-
  Layer 5: how great decimals are; the contracts with their values as equations.
-/
import Derived.Test.YtafbkoejobkncaaDecR
namespace Go.Proofs.Ytafbkoejobkncaa
open Go.RowKit

/-- The value is below 10 to the K. -/
def Sz (x : Int) (s K : Nat) : Prop := x.natAbs < 10 ^ (K + s)
theorem Sz.mono {x : Int} {s K L : Nat} (h : Sz x s K) (hl : K ≤ L) : Sz x s L := Nat.lt_of_lt_of_le h (Nat.pow_le_pow_right (by omega) (by omega))
theorem Sz.len {x : Int} {s K : Nat} (h : Sz x s K) : (dg x.natAbs).length ≤ K + s := len_of_ten h
theorem Sz.up {x : Int} {s K M : Nat} (h : Sz x s K) (hM : s ≤ M) : Sz (up x s M) M K := by
  unfold Sz at h ⊢
  rw [abs_up]
  have e : K + M = (K + s) + (M - s) := by omega
  rw [e, Nat.pow_add]
  exact Nat.mul_lt_mul_of_pos_right h (ten_pos _)
theorem Sz.add_same {x y : Int} {s K : Nat} (h : Sz x s K) (h' : Sz y s K) : Sz (x + y) s (K + 1) := by
  unfold Sz at h h' ⊢
  have e : K + 1 + s = (K + s) + 1 := by omega
  rw [e, Nat.pow_succ]
  omega
theorem Sz.add {x y : Int} {s t K L : Nat} (h : Sz x s K) (h' : Sz y t L) : Sz (addZ x s y t) (max s t) (max K L + 1) := by
  unfold addZ
  exact Sz.add_same ((h.mono (by omega)).up (by omega)) ((h'.mono (by omega)).up (by omega))
theorem Sz.neg {x : Int} {s K : Nat} (h : Sz x s K) : Sz (-x) s K := by unfold Sz at h ⊢; rw [Int.natAbs_neg]; exact h
theorem Sz.abs {x : Int} {s K : Nat} (h : Sz x s K) : Sz (x.natAbs : Int) s K := by unfold Sz at h ⊢; rw [Int.natAbs_natCast]; exact h
theorem Sz.sub {x y : Int} {s t K L : Nat} (h : Sz x s K) (h' : Sz y t L) : Sz (subZ x s y t) (max s t) (max K L + 1) := by
  rw [← sub_add]; exact h.add h'.neg
theorem Sz.mul {x y : Int} {s t K L : Nat} (h : Sz x s K) (h' : Sz y t L) : Sz (x * y) (s + t) (K + L) := by
  unfold Sz at h h' ⊢
  rw [Int.natAbs_mul]
  have e : K + L + (s + t) = (K + s) + (L + t) := by omega
  rw [e, Nat.pow_add]
  exact Nat.mul_lt_mul'' h h'
theorem Sz.of_len {x : Int} {s n : Nat} (h : (dg x.natAbs).length ≤ n) : Sz x s (9 * n) := Nat.lt_of_lt_of_le (ten_of_len h) (Nat.pow_le_pow_right (by omega) (by omega))
theorem Sz.strip {x : Int} {s K L : Nat} (h : Sz x s K) : Sz (stripI x s L) (s - stripK x s L) K := by
  unfold Sz at h ⊢
  have hk := stripK_le x s L
  unfold stripI
  rw [abs_sgn]
  refine Nat.div_lt_of_lt_mul ?_
  rw [← Nat.pow_add]
  have e : stripK x s L + (K + (s - stripK x s L)) = K + s := by omega
  rw [e]; exact h
theorem Sz.pow {x : Int} {s K : Nat} (h : Sz x s K) : ∀ k, Sz (x ^ k) (s * k) (K * k + 1) := by
  intro k
  induction k with
  | zero => show (x ^ 0).natAbs < _; rw [Int.pow_zero, Nat.mul_zero, Nat.mul_zero]; decide
  | succ k ih =>
    have := ih.mul h
    rw [Int.pow_succ]
    have e1 : K * k + 1 + K = K * (k + 1) + 1 := by rw [Nat.mul_succ]; omega
    have e2 : s * k + s = s * (k + 1) := (Nat.mul_succ s k).symm
    rw [e1, e2] at this
    exact this

theorem len_one {w : World} {B n c a : Nat} {A : Option Addr} (h : Num w B A n c a) (ha : a < 1000000000) : n ≤ 1 := by
  rw [← h.len]; exact dg_len_le (by omega)
theorem len_le {w : World} {B n c a m : Nat} {A : Option Addr} (h : Num w B A n c a) (ha : (dg a).length ≤ m) : n ≤ m := by rw [← h.len]; exact ha

section
variable {A A' : Option Addr} {n c n' c' s t M : Nat} {i j x y : Int} {w : World}
theorem mk_is5 {v1 v2 : Int} (w : World) (h1 : v1 = i) (h2 : v2 = (s : Int)) (hb : i.natAbs < 1000000000) (hs : s ≤ 100000) : Calls Try.prog 11 #[.int .i64 v1, .int .i64 v2] w (RetDec w i s) := by
  subst h1; subst h2; exact mk5_any _ s w (show _ ≤ _ by omega) (show _ ≤ _ by omega) hs
theorem align_is5 (h : Num w w.heap.size A n c i.natAbs) (h' : Num w w.heap.size A' n' c' j.natAbs) (hn : n ≤ 1000000) (hn' : n' ≤ 1000000) (hs : s ≤ 100000) (ht : t ≤ 100000) (hM : max s t = M) (hx : up i s M = x) (hy : up j t M = y) : Calls Try.prog 15 #[.agg #[.bool (ngB i), .slice A n c, .int .i64 (s : Int)], .agg #[.bool (ngB j), .slice A' n' c', .int .i64 (t : Int)]] w (RetDec2 w x M y M) := by
  subst hM; subst hx; subst hy; exact align_any A A' n c n' c' s t i j w h h' hn hn' hs ht
theorem add_is5 (h : Num w w.heap.size A n c i.natAbs) (h' : Num w w.heap.size A' n' c' j.natAbs) (hn : n ≤ 1000000) (hn' : n' ≤ 1000000) (hs : s ≤ 100000) (ht : t ≤ 100000) (hM : max s t = M) (hx : addZ i s j t = x) : Calls Try.prog 28 #[.agg #[.bool (ngB i), .slice A n c, .int .i64 (s : Int)], .agg #[.bool (ngB j), .slice A' n' c', .int .i64 (t : Int)]] w (RetDec w x M) := by
  subst hM; subst hx; exact add5_any A A' n c n' c' s t i j w h h' hn hn' hs ht
theorem sub_is5 (h : Num w w.heap.size A n c i.natAbs) (h' : Num w w.heap.size A' n' c' j.natAbs) (hn : n ≤ 1000000) (hn' : n' ≤ 1000000) (hs : s ≤ 100000) (ht : t ≤ 100000) (hM : max s t = M) (hx : subZ i s j t = x) : Calls Try.prog 30 #[.agg #[.bool (ngB i), .slice A n c, .int .i64 (s : Int)], .agg #[.bool (ngB j), .slice A' n' c', .int .i64 (t : Int)]] w (RetDec w x M) := by
  subst hM; subst hx; exact sub5_any A A' n c n' c' s t i j w h h' hn hn' hs ht
theorem mul_is5 (h : Num w w.heap.size A n c i.natAbs) (h' : Num w w.heap.size A' n' c' j.natAbs) (hn : n ≤ 1000000) (hn' : n' ≤ 1000000) (hs : s ≤ 100000) (ht : t ≤ 100000) (hM : s + t = M) (hx : i * j = x) : Calls Try.prog 32 #[.agg #[.bool (ngB i), .slice A n c, .int .i64 (s : Int)], .agg #[.bool (ngB j), .slice A' n' c', .int .i64 (t : Int)]] w (RetDec w x M) := by
  subst hM; subst hx; exact mul5_any A A' n c n' c' s t i j w h h' hn hn' hs ht
theorem same_is5 (h : Num w w.heap.size A n c i.natAbs) (h' : Num w w.heap.size A' n' c' j.natAbs) (hn : n ≤ 1000000) (hn' : n' ≤ 1000000) (hs : s ≤ 100000) (ht : t ≤ 100000) {b : Bool} (hb : (cmpD i s j t == 0) = b) : Calls Try.prog 25 #[.agg #[.bool (ngB i), .slice A n c, .int .i64 (s : Int)], .agg #[.bool (ngB j), .slice A' n' c', .int .i64 (t : Int)]] w (RetVal w (.bool b)) := by
  subst hb; exact same5_any A A' n c n' c' s t i j w h h' hn hn' hs ht
theorem refalign_is5 (h : Num w w.heap.size A n c i.natAbs) (h' : Num w w.heap.size A' n' c' j.natAbs) (hn : n ≤ 1000000) (hn' : n' ≤ 1000000) (hs : s ≤ 100000) (ht : t ≤ 100000) (hM : max s t = M) (hx : up i s M = x) (hy : up j t M = y) : Calls Try.prog 16 #[.agg #[.bool (ngB i), .slice A n c, .int .i64 (s : Int)], .agg #[.bool (ngB j), .slice A' n' c', .int .i64 (t : Int)]] w (RetDec2 w x M y M) := by
  subst hM; subst hx; subst hy; exact refAlign_any A A' n c n' c' s t i j w h h' hn hn' hs ht
theorem refadd_is5 (h : Num w w.heap.size A n c i.natAbs) (h' : Num w w.heap.size A' n' c' j.natAbs) (hn : n ≤ 1000000) (hn' : n' ≤ 1000000) (hs : s ≤ 100000) (ht : t ≤ 100000) (hM : max s t = M) (hx : addZ i s j t = x) : Calls Try.prog 29 #[.agg #[.bool (ngB i), .slice A n c, .int .i64 (s : Int)], .agg #[.bool (ngB j), .slice A' n' c', .int .i64 (t : Int)]] w (RetDec w x M) := by
  subst hM; subst hx; exact refAdd5_any A A' n c n' c' s t i j w h h' hn hn' hs ht
theorem refsub_is5 (h : Num w w.heap.size A n c i.natAbs) (h' : Num w w.heap.size A' n' c' j.natAbs) (hn : n ≤ 1000000) (hn' : n' ≤ 1000000) (hs : s ≤ 100000) (ht : t ≤ 100000) (hM : max s t = M) (hx : subZ i s j t = x) : Calls Try.prog 31 #[.agg #[.bool (ngB i), .slice A n c, .int .i64 (s : Int)], .agg #[.bool (ngB j), .slice A' n' c', .int .i64 (t : Int)]] w (RetDec w x M) := by
  subst hM; subst hx; exact refSub5_any A A' n c n' c' s t i j w h h' hn hn' hs ht
theorem refmul_is5 (h : Num w w.heap.size A n c i.natAbs) (h' : Num w w.heap.size A' n' c' j.natAbs) (hn : n ≤ 100000) (hn' : n' ≤ 100000) (hs : s ≤ 100000) (ht : t ≤ 100000) (hM : s + t = M) (hx : i * j = x) : Calls Try.prog 33 #[.agg #[.bool (ngB i), .slice A n c, .int .i64 (s : Int)], .agg #[.bool (ngB j), .slice A' n' c', .int .i64 (t : Int)]] w (RetDec w x M) := by
  subst hM; subst hx; exact refMul5_any A A' n c n' c' s t i j w h h' hn hn' hs ht
theorem refsame_is5 (h : Num w w.heap.size A n c i.natAbs) (h' : Num w w.heap.size A' n' c' j.natAbs) (hn : n ≤ 1000000) (hn' : n' ≤ 1000000) (hs : s ≤ 100000) (ht : t ≤ 100000) {b : Bool} (hb : (cmpD i s j t == 0) = b) : Calls Try.prog 26 #[.agg #[.bool (ngB i), .slice A n c, .int .i64 (s : Int)], .agg #[.bool (ngB j), .slice A' n' c', .int .i64 (t : Int)]] w (RetVal w (.bool b)) := by
  subst hb; exact refSame5_any A A' n c n' c' s t i j w h h' hn hn' hs ht
theorem alike_is5 (h : Num w w.heap.size A n c i.natAbs) (h' : Num w w.heap.size A' n' c' j.natAbs) {b : Bool} (hb : alikeB i s j t = b) : Calls Try.prog 27 #[.agg #[.bool (ngB i), .slice A n c, .int .i64 (s : Int)], .agg #[.bool (ngB j), .slice A' n' c', .int .i64 (t : Int)]] w (RetVal w (.bool b)) := by
  subst hb; exact alike_any A A' n c n' c' s t i j w h h'
theorem refalike_is5 (h : Num w w.heap.size A n c i.natAbs) (h' : Num w w.heap.size A' n' c' j.natAbs) {b : Bool} (hb : alikeB i s j t = b) : Calls Try.prog 10 #[.agg #[.bool (ngB i), .slice A n c, .int .i64 (s : Int)], .agg #[.bool (ngB j), .slice A' n' c', .int .i64 (t : Int)]] w (RetVal w (.bool b)) := by
  subst hb; exact refAlike_any A A' n c n' c' s t i j w h h'
theorem right_is5 (h : Num w w.heap.size A n c i.natAbs) : Calls Try.prog 8 #[.agg #[.bool (ngB i), .slice A n c, .int .i64 (s : Int)]] w (RetVal w (.bool true)) := by
  have := right5_any (ngB i) A n c (dg i.natAbs) (s : Int) w h
  rwa [rightD_dec h] at this
theorem neg_is5 (h : Num w w.heap.size A n c i.natAbs) (hn : n ≤ 1000000) (hs : s ≤ 100000) (hx : -i = x) : Calls Try.prog 17 #[.agg #[.bool (ngB i), .slice A n c, .int .i64 (s : Int)]] w (RetDec w x s) := by
  subst hx; exact neg_any A n c s i w h (by omega) (by omega)
theorem abs_is5 (h : Num w w.heap.size A n c i.natAbs) (hn : n ≤ 1000000) (hs : s ≤ 100000) (hx : (i.natAbs : Int) = x) : Calls Try.prog 19 #[.agg #[.bool (ngB i), .slice A n c, .int .i64 (s : Int)]] w (RetDec w x s) := by
  subst hx; exact abs_any A n c s i w h (by omega) (by omega)
theorem refneg_is5 (h : Num w w.heap.size A n c i.natAbs) (hn : n ≤ 1000000) (hs : s ≤ 100000) (hx : -i = x) : Calls Try.prog 18 #[.agg #[.bool (ngB i), .slice A n c, .int .i64 (s : Int)]] w (RetDec w x s) := by
  subst hx; exact refNeg_any A n c s i w h (by omega)
theorem refabs_is5 (h : Num w w.heap.size A n c i.natAbs) (hn : n ≤ 1000000) (hs : s ≤ 100000) (hx : (i.natAbs : Int) = x) : Calls Try.prog 20 #[.agg #[.bool (ngB i), .slice A n c, .int .i64 (s : Int)]] w (RetDec w x s) := by
  subst hx; exact refAbs_any A n c s i w h (by omega)
theorem strip_is5 {L : Nat} {v : Int} (h : Num w w.heap.size A n c i.natAbs) (hn : n ≤ 1000) (hs : s ≤ 100000) (hv : max v 0 = (L : Int)) (hL : L ≤ 9223372036854775807) (hM : s - stripK i s L = M) (hx : stripI i s L = x) : Calls Try.prog 34 #[.agg #[.bool (ngB i), .slice A n c, .int .i64 (s : Int)], .int .i64 v] w (RetDec w x M) := by
  subst hM; subst hx; exact strip_any A n c s L i v w h hn hs hv hL
theorem refstrip_is5 {L : Nat} {v : Int} (h : Num w w.heap.size A n c i.natAbs) (hn : n ≤ 1000) (hs : s ≤ 100000) (hv : max v 0 = (L : Int)) (hL : L ≤ 9223372036854775807) (hM : s - stripK i s L = M) (hx : stripI i s L = x) : Calls Try.prog 35 #[.agg #[.bool (ngB i), .slice A n c, .int .i64 (s : Int)], .int .i64 v] w (RetDec w x M) := by
  subst hM; subst hx; exact refStrip_any A n c s L i v w h hn hs hv hL
theorem power_is5 {k : Nat} {v : Int} (h : Num w w.heap.size A n c i.natAbs) (hn : n ≤ 100) (hs : s ≤ 10000) (hk : k ≤ 255) (hv : v = (k : Int)) (hM : s * k = M) (hx : i ^ k = x) : Calls Try.prog 38 #[.agg #[.bool (ngB i), .slice A n c, .int .i64 (s : Int)], .int .i64 v] w (RetDecE w x M) := by
  subst hv; subst hM; subst hx; exact power5_any A n c s k i w h hn hs hk
theorem refpower_is5 {k : Nat} {v : Int} (h : Num w w.heap.size A n c i.natAbs) (hn : n ≤ 100) (hs : s ≤ 10000) (hk : k ≤ 255) (hv : v = (k : Int)) (hM : s * k = M) (hx : i ^ k = x) : Calls Try.prog 39 #[.agg #[.bool (ngB i), .slice A n c, .int .i64 (s : Int)], .int .i64 v] w (RetDecE w x M) := by
  subst hv; subst hM; subst hx; exact refPower5_any A n c s k i w h hn hs hk
end

end Go.Proofs.Ytafbkoejobkncaa
