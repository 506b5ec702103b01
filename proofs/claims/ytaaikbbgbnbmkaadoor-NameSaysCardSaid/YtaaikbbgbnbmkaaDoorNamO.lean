/-
  Layer 11: the contracts as the laws want them; the examples (awake) answer true, whatever the memory.
-/
import Derived.Test.YtaaikbbgbnbmkaaDoorNamN
import Derived.Test.YtaaikbbgbnbmkaaDoorNamK
set_option linter.unusedVariables false
set_option linter.unusedSimpArgs false
namespace Go.Proofs.YtaaikbbgbnbmkaaDoor
open Go.RowKit

theorem q9 {f : FuncId} {args : Array Value} {w : World} {v : Value} (h : Calls Tryd.prog f args w (fun e w' => e = .returned v ∧ w' = w)) : Calls Tryd.prog f args w (Ret9 w v) :=
  h.mono fun e w' ⟨h1, h2⟩ => ⟨h1, by rw [h2]; exact Below.refl _ _⟩
def undB (s t : List Nat) : Bool := t.isEmpty || s == t || (t ++ [58]).isPrefixOf s
theorem ub_of {s t : List Nat} {b : Bool} (h : undB s t = b) : UB s t b := by
  unfold UB
  rw [← h]
  unfold undB Und
  rw [Bool.or_eq_true, Bool.or_eq_true, List.isEmpty_iff, beq_iff_eq, List.isPrefixOf_iff_prefix, or_assoc]
  constructor
  · rintro (h | h | ⟨u, h⟩)
    · exact .inl h
    · exact .inr (.inl h)
    · exact .inr (.inr ⟨u, by rw [h]; simp⟩)
  · rintro (h | h | ⟨u, h⟩)
    · exact .inl h
    · exact .inr (.inl h)
    · exact .inr (.inr ⟨u, by rw [← h]; simp⟩)

set_option maxHeartbeats 8000000 in
set_option maxRecDepth 100000 in
theorem awake11 (w : World) (hm : MaxLen w) (hr : Roots w) : Calls Tryd.prog 7 #[] w (Ret9 w (.bool true)) := by
  have HM := Lib.hid hm
  have HR := Lib.hid hr
  have E : Hid (Below w.heap.size w w) := Below.refl _ _
  clear hm hr
  have F0 : Hid (accB (bs9 ⟨#[65, 115, 115, 101, 116, 115, 58, 66, 97, 110, 107, 58, 71, 105, 114, 111, 45, 49]⟩) = true) := by show _ = _; decide +kernel
  have F1 : Hid (accB (bs9 ⟨#[65, 115, 115, 101, 116, 115]⟩) = false) := by show _ = _; decide +kernel
  have F2 : Hid (accB (bs9 ⟨#[65, 115, 115, 101, 116, 115, 58, 98, 97, 110, 107]⟩) = false) := by show _ = _; decide +kernel
  have F3 : Hid (accB (bs9 ⟨#[65, 115, 115, 101, 116, 58, 66, 97, 110, 107]⟩) = false) := by show _ = _; decide +kernel
  have F4 : Hid (curB (bs9 ⟨#[85, 83, 68]⟩) = true) := by show _ = _; decide +kernel
  have F5 : Hid (curB (bs9 ⟨#[65, 39, 66, 46, 67, 45, 49]⟩) = true) := by show _ = _; decide +kernel
  have F6 : Hid (curB (bs9 ⟨#[85, 83, 68, 46]⟩) = false) := by show _ = _; decide +kernel
  have F7 : Hid (curB (bs9 ⟨#[117, 115, 100]⟩) = false) := by show _ = _; decide +kernel
  have F8 : Hid (tagB (bs9 ⟨#[97, 47, 98, 46, 99]⟩) = true) := by show _ = _; decide +kernel
  have F9 : Hid (tagB (bs9 ⟨#[]⟩) = false) := by show _ = _; decide +kernel
  have F10 : Hid (keyB (bs9 ⟨#[114, 101, 102, 45, 49]⟩) = true) := by show _ = _; decide +kernel
  have F11 : Hid (keyB (bs9 ⟨#[82, 101, 102]⟩) = false) := by show _ = _; decide +kernel
  have F12 : Hid (undB (bs9 ⟨#[65, 115, 115, 101, 116, 115, 58, 66, 97, 110, 107, 58, 71, 105, 114, 111]⟩) (bs9 ⟨#[65, 115, 115, 101, 116, 115, 58, 66, 97, 110, 107]⟩) = true) := by show _ = _; decide +kernel
  have F13 : Hid (undB (bs9 ⟨#[65, 115, 115, 101, 116, 115, 58, 66, 97, 110, 107, 115]⟩) (bs9 ⟨#[65, 115, 115, 101, 116, 115, 58, 66, 97, 110, 107]⟩) = false) := by show _ = _; decide +kernel
  have F14 : Hid (undB (bs9 ⟨#[120]⟩) (bs9 ⟨#[]⟩) = true) := by show _ = _; decide +kernel
  have F15 : Hid (prl (bs9 ⟨#[65, 115, 115, 101, 116, 115, 58, 66, 97, 110, 107, 58, 71, 105, 114, 111]⟩) = bs9 ⟨#[65, 115, 115, 101, 116, 115, 58, 66, 97, 110, 107]⟩) := by show _ = _; decide +kernel
  have F16 : Hid (prl (bs9 ⟨#[65, 115, 115, 101, 116, 115]⟩) = bs9 ⟨#[]⟩) := by show _ = _; decide +kernel
  have F17 : Hid (dep (bs9 ⟨#[65, 115, 115, 101, 116, 115, 58, 66, 97, 110, 107]⟩) = 2) := by show _ = _; decide +kernel
  have F18 : Hid (dep (bs9 ⟨#[]⟩) = 0) := by show _ = _; decide +kernel
  have F19 : Hid (lfl (bs9 ⟨#[65, 115, 115, 101, 116, 115, 58, 66, 97, 110, 107]⟩) = bs9 ⟨#[66, 97, 110, 107]⟩) := by show _ = _; decide +kernel
  have F20 : Hid (rot (bs9 ⟨#[73, 110, 99, 111, 109, 101, 58, 88]⟩) = 4) := by show _ = _; decide +kernel
  have F21 : Hid (rot (bs9 ⟨#[120]⟩) = 0) := by show _ = _; decide +kernel
  have F22 : Hid ((prt (bs9 ⟨#[97, 58, 58, 98]⟩)).length = 3) := by show _ = _; decide +kernel
  go_enter Tryd.func7, Tryd.ntmps7
  go_wp2_with fail
  refine (account_is F0.out (by decide) (HM.out.on E.out) (HR.out.on E.out)).mono ?_; rintro e w1 ⟨rfl, hb⟩; replace E := Lib.hid (E.out.trans (hb.mono E.out.size)); clear hb
  go_wp2_with fail
  refine (account_is F1.out (by decide) (HM.out.on E.out) (HR.out.on E.out)).mono ?_; rintro e w1 ⟨rfl, hb⟩; replace E := Lib.hid (E.out.trans (hb.mono E.out.size)); clear hb
  go_wp2_with fail
  refine (account_is F2.out (by decide) (HM.out.on E.out) (HR.out.on E.out)).mono ?_; rintro e w1 ⟨rfl, hb⟩; replace E := Lib.hid (E.out.trans (hb.mono E.out.size)); clear hb
  go_wp2_with fail
  refine (account_is F3.out (by decide) (HM.out.on E.out) (HR.out.on E.out)).mono ?_; rintro e w1 ⟨rfl, hb⟩; replace E := Lib.hid (E.out.trans (hb.mono E.out.size)); clear hb
  go_wp2_with fail
  refine (q9 (currency_is F4.out (by decide) _)).mono ?_; rintro e w1 ⟨rfl, hb⟩; replace E := Lib.hid (E.out.trans (hb.mono E.out.size)); clear hb
  go_wp2_with fail
  refine (q9 (currency_is F5.out (by decide) _)).mono ?_; rintro e w1 ⟨rfl, hb⟩; replace E := Lib.hid (E.out.trans (hb.mono E.out.size)); clear hb
  go_wp2_with fail
  refine (q9 (currency_is F6.out (by decide) _)).mono ?_; rintro e w1 ⟨rfl, hb⟩; replace E := Lib.hid (E.out.trans (hb.mono E.out.size)); clear hb
  go_wp2_with fail
  refine (q9 (currency_is F7.out (by decide) _)).mono ?_; rintro e w1 ⟨rfl, hb⟩; replace E := Lib.hid (E.out.trans (hb.mono E.out.size)); clear hb
  go_wp2_with fail
  refine (q9 (tag_is F8.out (by decide) _)).mono ?_; rintro e w1 ⟨rfl, hb⟩; replace E := Lib.hid (E.out.trans (hb.mono E.out.size)); clear hb
  go_wp2_with fail
  refine (q9 (tag_is F9.out (by decide) _)).mono ?_; rintro e w1 ⟨rfl, hb⟩; replace E := Lib.hid (E.out.trans (hb.mono E.out.size)); clear hb
  go_wp2_with fail
  refine (q9 (key_is F10.out (by decide) _)).mono ?_; rintro e w1 ⟨rfl, hb⟩; replace E := Lib.hid (E.out.trans (hb.mono E.out.size)); clear hb
  go_wp2_with fail
  refine (q9 (key_is F11.out (by decide) _)).mono ?_; rintro e w1 ⟨rfl, hb⟩; replace E := Lib.hid (E.out.trans (hb.mono E.out.size)); clear hb
  go_wp2_with fail
  refine (q9 (under_is (ub_of F12.out) (by decide) (by decide) _)).mono ?_; rintro e w1 ⟨rfl, hb⟩; replace E := Lib.hid (E.out.trans (hb.mono E.out.size)); clear hb
  go_wp2_with fail
  refine (q9 (under_is (ub_of F13.out) (by decide) (by decide) _)).mono ?_; rintro e w1 ⟨rfl, hb⟩; replace E := Lib.hid (E.out.trans (hb.mono E.out.size)); clear hb
  go_wp2_with fail
  refine (q9 (under_is (ub_of F14.out) (by decide) (by decide) _)).mono ?_; rintro e w1 ⟨rfl, hb⟩; replace E := Lib.hid (E.out.trans (hb.mono E.out.size)); clear hb
  go_wp2_with fail
  refine (q9 (parent_is F15.out (by decide) _)).mono ?_; rintro e w1 ⟨rfl, hb⟩; replace E := Lib.hid (E.out.trans (hb.mono E.out.size)); clear hb
  go_wp2_with fail
  refine (q9 (parent_is F16.out (by decide) _)).mono ?_; rintro e w1 ⟨rfl, hb⟩; replace E := Lib.hid (E.out.trans (hb.mono E.out.size)); clear hb
  go_wp2_with fail
  refine (q9 (depth_is F17.out (by decide) _)).mono ?_; rintro e w1 ⟨rfl, hb⟩; replace E := Lib.hid (E.out.trans (hb.mono E.out.size)); clear hb
  go_wp2_with fail
  refine (q9 (depth_is F18.out (by decide) _)).mono ?_; rintro e w1 ⟨rfl, hb⟩; replace E := Lib.hid (E.out.trans (hb.mono E.out.size)); clear hb
  go_wp2_with fail
  refine (q9 (leaf_is F19.out (by decide) _)).mono ?_; rintro e w1 ⟨rfl, hb⟩; replace E := Lib.hid (E.out.trans (hb.mono E.out.size)); clear hb
  go_wp2_with fail
  refine (root_is F20.out (by decide) (HM.out.on E.out) (HR.out.on E.out)).mono ?_; rintro e w1 ⟨rfl, hb⟩; replace E := Lib.hid (E.out.trans (hb.mono E.out.size)); clear hb
  go_wp2_with fail
  refine (root_is F21.out (by decide) (HM.out.on E.out) (HR.out.on E.out)).mono ?_; rintro e w1 ⟨rfl, hb⟩; replace E := Lib.hid (E.out.trans (hb.mono E.out.size)); clear hb
  go_wp2_with fail
  refine (parts_any _ _ (by decide) (HM.out.on E.out)).mono ?_; rintro e w1 ⟨A, c, rfl, hp, hb⟩; replace E := Lib.hid (E.out.trans (hb.mono E.out.size)); clear hb
  rw [F22.out] at hp ⊢
  clear hp
  go_wp2_with fail
  go_ret
  exact ⟨rfl, E.out⟩

theorem prl_mem (l : List Nat) : (∀ c ∈ prl l, c ∈ l) ∧ (∀ c ∈ lfl l, c ∈ l) ∧ (prl l).length ≤ l.length ∧ (lfl l).length ≤ l.length := by
  rcases last_or l with ⟨_, h1, h2⟩ | ⟨h, _⟩
  · rw [h1, h2]; exact ⟨fun c hc => absurd hc List.not_mem_nil, fun c hc => hc, Nat.zero_le _, Nat.le_refl _⟩
  · refine ⟨fun c hc => ?_, fun c hc => ?_, ?_, ?_⟩
    · rw [h]; exact List.mem_append_left _ hc
    · rw [h]; exact List.mem_append_right _ (List.mem_cons_of_mem _ hc)
    · conv => rhs; rw [h]
      rw [List.length_append]; omega
    · conv => rhs; rw [h]
      rw [List.length_append, List.length_cons]; omega
theorem ex_parent (s : ByteArray) : ∃ X, prl (bs9 s) = bs9 X ∧ X.size ≤ s.size := by
  have e := bs9_st9 (l := prl (bs9 s)) fun c hc => bs9_lt s c ((prl_mem (bs9 s)).1 c hc)
  exact ⟨st9 (prl (bs9 s)), e.symm, by rw [← bs9_len (st9 _), e, ← bs9_len s]; exact (prl_mem _).2.2.1⟩
theorem ex_leaf (s : ByteArray) : ∃ X, lfl (bs9 s) = bs9 X ∧ X.size ≤ s.size := by
  have e := bs9_st9 (l := lfl (bs9 s)) fun c hc => bs9_lt s c ((prl_mem (bs9 s)).2.1 c hc)
  exact ⟨st9 (lfl (bs9 s)), e.symm, by rw [← bs9_len (st9 _), e, ← bs9_len s]; exact (prl_mem _).2.2.2⟩
theorem ex_common (a b : ByteArray) : ∃ X, com (bs9 a) (bs9 b) = bs9 X ∧ X.size ≤ a.size := by
  obtain ⟨r, hr⟩ := und_pre (com_left (bs9 a) (bs9 b))
  have e := bs9_st9 (l := com (bs9 a) (bs9 b)) fun c hc => bs9_lt a c (by rw [hr]; exact List.mem_append_left _ hc)
  refine ⟨st9 (com (bs9 a) (bs9 b)), e.symm, ?_⟩
  rw [← bs9_len (st9 _), e, ← bs9_len a]
  conv => rhs; rw [hr]
  rw [List.length_append]; omega

end Go.Proofs.YtaaikbbgbnbmkaaDoor
