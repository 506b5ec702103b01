/-
  Contracts of layer 1 that only read, the second part: the document's Cmp, and Same.
-/
import Derived.Test.YtecgmdomhbmbkaaDoorNatA
namespace Go.Proofs.YtecgmdomhbmbkaaDoor
open Go.RowKit

theorem at_pred (A : Option Addr) (n c k B : Nat) (xs : List Nat) (w : World) (h : Lim w B A n c xs) (hk : 0 < k) :
    Calls Tryd.prog 34 #[.slice A n c, .int .i64 ((k : Int) - 1)] w fun e w' => e = .returned (.int .u32 (gd xs (k - 1) : Nat)) ∧ w = w' := by
  have e : ((k : Int) - 1) = ((k - 1 : Nat) : Int) := by omega
  rw [e]
  exact at_any A n c (k - 1) B xs w h

set_option maxHeartbeats 1000000 in
theorem refCmp_any (A A' : Option Addr) (n c n' c' a b : Nat) (w : World) (h : Num w w.heap.size A n c a) (h' : Num w w.heap.size A' n' c' b) :
    Calls Tryd.prog 30 #[.slice A n c, .slice A' n' c'] w (RetVal w (.int .i64 (cmpN a b))) := by
  have hm := h.room
  have hn := h.cap
  have hm' := h'.room
  have hn' := h'.cap
  unfold maxLen at hm hm'
  have GA : Hid (∀ k, gd (dg a) k < 4294967296) := h.gd_lt
  have GB : Hid (∀ k, gd (dg b) k < 4294967296) := h'.gd_lt
  have O : Hid (∀ j, max n n' ≤ j → gd (dg a) j = gd (dg b) j) := fun j hj => by rw [gd_of_ge (by rw [h.len]; omega), gd_of_ge (by rw [h'.len]; omega)]
  have H := Lib.hid h
  have H' := Lib.hid h'
  clear h h'
  go_enter Tryd.func30, Tryd.ntmps30
  go_wp2
  all_goals
    go_loopw [5] (fun i wr => ∃ k : Nat, k ≤ max n n' ∧ i = .int .i64 ((k : Int) - 1) ∧ (∀ j, k ≤ j → gd (dg a) j = gd (dg b) j) ∧ Below w.heap.size w wr) (fun i _ => (intOf i + 1).toNat)
    case atStart => exact ⟨max n n', Nat.le_refl _, by go_num, O.out, Below.refl _ _⟩
    case round =>
      obtain ⟨k, hk, rfl, hall, hb⟩ := hrel
      have HALL := Lib.hid hall
      clear hall O
      rcases Nat.eq_zero_or_pos k with h0 | h0
      · subst h0
        go_wp2
        go_ret
        exact ⟨ret_int (by rw [cmp_eq_at HALL.out]), hb⟩
      · have H1 := Lib.hid (H.out.below hb)
        have H1' := Lib.hid (H'.out.below hb)
        have ga := GA.out (k - 1)
        have gb := GB.out (k - 1)
        have HB := Lib.hid hb
        clear hb
        have eK : Hid ((k : Int) - 1 = ((k - 1 : Nat) : Int)) := by show _ = _; omega
        rcases Nat.lt_trichotomy (gd (dg a) (k - 1)) (gd (dg b) (k - 1)) with hlt | he | hgt
        · go_wp2_with (go_at_call 34; first | ((with_reducible refine (at_pred A n c k _ (dg a) _ H1.out h0).mono ?_); rintro e w' ⟨rfl, rfl⟩) | ((with_reducible refine (at_pred A' n' c' k _ (dg b) _ H1'.out h0).mono ?_); rintro e w' ⟨rfl, rfl⟩))
          go_ret
          exact ⟨ret_int (by rw [cmp_lt_at (fun j hj => HALL.out j (by omega)) hlt]), HB.out⟩
        · have HE := Lib.hid he
          have he' : (((gd (dg a) (k - 1) : Nat) : Int) != (gd (dg b) (k - 1) : Nat)) = false := by simp; omega
          clear he
          go_wp2_with (go_at_call 34; first | ((with_reducible refine (at_pred A n c k _ (dg a) _ H1.out h0).mono ?_); rintro e w' ⟨rfl, rfl⟩) | ((with_reducible refine (at_pred A' n' c' k _ (dg b) _ H1'.out h0).mono ?_); rintro e w' ⟨rfl, rfl⟩))
          go_roundw
          case rel => exact ⟨k - 1, by omega, by go_num, all_pred HALL.out HE.out, HB.out⟩
          case measure => simp [intOf]; omega
        · go_wp2_with (go_at_call 34; first | ((with_reducible refine (at_pred A n c k _ (dg a) _ H1.out h0).mono ?_); rintro e w' ⟨rfl, rfl⟩) | ((with_reducible refine (at_pred A' n' c' k _ (dg b) _ H1'.out h0).mono ?_); rintro e w' ⟨rfl, rfl⟩))
          go_ret
          exact ⟨ret_int (by rw [cmp_gt_at (fun j hj => HALL.out j (by omega)) hgt]), HB.out⟩

theorem same_any (A A' : Option Addr) (n c n' c' a b : Nat) (w : World) (h : Num w w.heap.size A n c a) (h' : Num w w.heap.size A' n' c' b) :
    Calls Tryd.prog 20 #[.slice A n c, .slice A' n' c'] w (RetVal w (.bool (decide (a = b)))) := by
  have H := Lib.hid h
  have H' := Lib.hid h'
  clear h h'
  go_enter Tryd.func20, Tryd.ntmps20
  go_wp2_with (go_at_call 31; refine (cmp_any A A' n c n' c' a b _ H.out H'.out).mono ?_; rintro e w' ⟨rfl, hb⟩)
  go_ret
  exact ⟨ret_bool (by rw [Bool.eq_iff_iff, decide_eq_true_iff, ← cmpN_zero]; simp), by assumption⟩

theorem refSame_any (A A' : Option Addr) (n c n' c' a b : Nat) (w : World) (h : Num w w.heap.size A n c a) (h' : Num w w.heap.size A' n' c' b) :
    Calls Tryd.prog 14 #[.slice A n c, .slice A' n' c'] w (RetVal w (.bool (decide (a = b)))) := by
  have H := Lib.hid h
  have H' := Lib.hid h'
  clear h h'
  go_enter Tryd.func14, Tryd.ntmps14
  go_wp2_with (go_at_call 30; refine (refCmp_any A A' n c n' c' a b _ H.out H'.out).mono ?_; rintro e w' ⟨rfl, hb⟩)
  go_ret
  exact ⟨ret_bool (by rw [Bool.eq_iff_iff, decide_eq_true_iff, ← cmpN_zero]; simp), by assumption⟩

end Go.Proofs.YtecgmdomhbmbkaaDoor
