/-
  Contracts of layer 6, the first part: signs as method expressions; a number without its lowest limbs; the nearest quotient after a shift.
-/
import Derived.Test.YtllcjahekckbfaaRouMath
set_option linter.unusedVariables false
set_option linter.unusedSimpArgs false
namespace Go.Proofs.Ytllcjahekckbfaa
open Go.RowKit

set_option maxRecDepth 100000 in
theorem below_any (z : Int) (w : World) : Calls Try.prog 29 #[.int .i64 z] w fun e w' => e = .returned (.bool (decide (z < 0))) ∧ w = w' := by
  go_enter Try.func29, Try.ntmps29
  go_wp2
  go_ret
  exact ⟨rfl, rfl⟩

set_option maxRecDepth 100000 in
theorem above_any (z : Int) (w : World) : Calls Try.prog 30 #[.int .i64 z] w fun e w' => e = .returned (.bool (decide (0 < z))) ∧ w = w' := by
  go_enter Try.func30, Try.ntmps30
  go_wp2
  go_ret
  exact ⟨rfl, rfl⟩

set_option maxRecDepth 100000 in
theorem isBelow_any (A : Option Addr) (n c s : Nat) (i : Int) (w : World) (h : Num w w.heap.size A n c i.natAbs) :
    Calls Try.prog 33 #[.agg #[.bool (ngB i), .slice A n c, .int .i64 (s : Int)], .func (.func 29) #[] #[]] w (RetVal w (.bool (ngB i))) := by
  have H := Lib.hid h
  clear h
  go_enter Try.func33, Try.ntmps33
  go_wp2_with fail
  generalize hW : World.alloc w _ = W0
  have E0 : St w W0 [(A, n, c, i.natAbs)] [(w.heap.size, .bool (ngB i), .slice A n c, .int .i64 (s : Int))] := by rw [← hW]; exact (start_one H.out).lay rfl
  have E := Lib.hid E0
  clear hW E0
  obtain ⟨p0, p1, p2, pf0, pf1, pf2, plt⟩ := St.at_ (x0 := .bool (ngB i)) (x1 := .slice A n c) (x2 := .int .i64 (s : Int)) (g := w.heap.size) E (by simp)
  go_wp2_with fail
  refine (sign_any A n c s i _ (St.got E (by simp))).mono ?_; rintro e w1 ⟨rfl, hb⟩; replace E := Lib.hid (St.step E.out hb); clear hb
  go_wp2_with fail
  refine (below_any _ _).mono ?_; rintro e w2 ⟨rfl, rfl⟩
  go_wp2_with fail
  go_ret
  exact ⟨ret_bool rfl, E.out.bel⟩

set_option maxRecDepth 100000 in
theorem isAbove_any (A : Option Addr) (n c s : Nat) (i : Int) (w : World) (h : Num w w.heap.size A n c i.natAbs) :
    Calls Try.prog 33 #[.agg #[.bool (ngB i), .slice A n c, .int .i64 (s : Int)], .func (.func 30) #[] #[]] w (RetVal w (.bool (decide (0 < i)))) := by
  have H := Lib.hid h
  clear h
  go_enter Try.func33, Try.ntmps33
  go_wp2_with fail
  generalize hW : World.alloc w _ = W0
  have E0 : St w W0 [(A, n, c, i.natAbs)] [(w.heap.size, .bool (ngB i), .slice A n c, .int .i64 (s : Int))] := by rw [← hW]; exact (start_one H.out).lay rfl
  have E := Lib.hid E0
  clear hW E0
  obtain ⟨p0, p1, p2, pf0, pf1, pf2, plt⟩ := St.at_ (x0 := .bool (ngB i)) (x1 := .slice A n c) (x2 := .int .i64 (s : Int)) (g := w.heap.size) E (by simp)
  go_wp2_with fail
  refine (sign_any A n c s i _ (St.got E (by simp))).mono ?_; rintro e w1 ⟨rfl, hb⟩; replace E := Lib.hid (St.step E.out hb); clear hb
  go_wp2_with fail
  refine (above_any _ _).mono ?_; rintro e w2 ⟨rfl, rfl⟩
  go_wp2_with fail
  go_ret
  exact ⟨ret_bool rfl, E.out.bel⟩

set_option maxRecDepth 100000 in
theorem limbPos_any (x : Nat) (w : World) : Calls Try.prog 74 #[.int .u32 (x : Int)] w fun e w' => e = .returned (.bool (decide (0 < x))) ∧ w = w' := by
  go_enter Try.func74, Try.ntmps74
  go_wp2
  go_ret
  exact ⟨rfl, rfl⟩

theorem val_pos_gd {xs : List Nat} {k : Nat} (h : 0 < gd xs k) : 0 < val xs := by
  rcases Nat.eq_zero_or_pos (val xs) with h0 | h0
  · have := val_zero_gd h0 k; omega
  · exact h0
set_option maxRecDepth 100000 in
theorem indexLimb_any (A : Option Addr) (n c B : Nat) (xs : List Nat) (w : World) (h : Lim w B A n c xs) :
    Calls Try.prog 81 #[.slice A n c, .func (.func 74) #[] #[]] w fun e w' => (∃ r : Int, e = .returned (.int .i64 r) ∧ decide (0 ≤ r) = decide (0 < val xs)) ∧ w = w' := by
  have hm := h.room
  have hn := h.cap
  unfold maxLen at hm
  go_enter Try.func81, Try.ntmps81
  go_wp2
  go_loop [8] (fun i => ∃ k : Nat, k ≤ n ∧ i = .int .i64 k ∧ ∀ j, j < k → gd xs j = 0) (fun i => n - (intOf i).toNat)
  case atStart => exact ⟨0, Nat.zero_le _, rfl, fun j hj => absurd hj (by omega)⟩
  case round =>
    obtain ⟨k, hk, rfl, hall⟩ := hrel
    have HALL := Lib.hid hall
    clear hall
    by_cases hkn : k < n
    · obtain ⟨b, o, rfl, _, hc⟩ := h.at_ hkn
      have hg := h.gd_lt k
      have H := Lib.hid h
      clear h
      by_cases hbig : 0 < gd xs k
      · have E := Lib.hid (val_pos_gd (xs := xs) (k := k) (by omega))
        go_wp2_with fail
        refine (limbPos_any _ _).mono ?_; rintro e w2 ⟨rfl, rfl⟩
        go_wp2_with fail
        go_ret
        exact ⟨⟨_, rfl, by rw [decide_eq_true E.out]; simp⟩, rfl⟩
      · have hz : gd xs k = 0 := by omega
        have HZ := Lib.hid hz
        go_wp2_with fail
        refine (limbPos_any _ _).mono ?_; rintro e w2 ⟨rfl, rfl⟩
        go_wp2_with fail
        go_round
        case rel => exact ⟨k + 1, by omega, by go_num, fun j hj => by rcases Nat.lt_or_ge j k with h1 | h1; exact HALL.out j h1; obtain rfl : j = k := by omega
                                                                      exact HZ.out⟩
        case measure => simp [intOf]; omega
    · obtain rfl : k = n := by omega
      have E : Hid (val xs = 0) := gd_zero_val (fun j hj => HALL.out j (by rw [h.len] at hj; exact hj))
      clear h
      go_wp2
      go_ret
      exact ⟨⟨_, rfl, by rw [E.out]; simp⟩, rfl⟩

set_option maxRecDepth 100000 in
theorem someLimb_any (A : Option Addr) (n c B : Nat) (xs : List Nat) (w : World) (h : Lim w B A n c xs) :
    Calls Try.prog 73 #[.slice A n c, .func (.func 74) #[] #[]] w fun e w' => e = .returned (.bool (decide (0 < val xs))) ∧ w = w' := by
  have H := Lib.hid h
  clear h
  go_enter Try.func73, Try.ntmps73
  go_wp2_with fail
  refine (indexLimb_any A n c B xs _ H.out).mono ?_; rintro e w1 ⟨⟨r, rfl, hr⟩, rfl⟩
  have HR := Lib.hid hr
  clear hr
  go_wp2_with fail
  go_ret
  exact ⟨ret_bool HR.out, rfl⟩

end Go.Proofs.Ytllcjahekckbfaa
