/-
  NameKinds answers true.
-/
import Derived.Test.YtaaikbbgbnbmkaaDoorNamO
set_option linter.unusedVariables false
set_option linter.unusedSimpArgs false
namespace Go.Proofs.YtaaikbbgbnbmkaaDoor
open Go.RowKit

theorem hdc_app (l u : List Nat) : hdc (l ++ 58 :: u) = hdc l := by
  rcases colon_or l with h | ⟨x, v, rfl, h⟩
  · rw [hdc_at h, hdc_no h]
  · rw [List.append_assoc, List.cons_append, hdc_at h, hdc_at h]
theorem rotX_le (x : List Nat) : rotX x ≤ 5 := by
  unfold rotX
  (repeat' split) <;> omega
theorem acc_58 {l : List Nat} (h : accB l = true) : 58 ∈ l ∧ 1 ≤ rot l ∧ rot l ≤ 5 := by
  unfold accB at h
  rw [Bool.and_eq_true, Bool.and_eq_true, decide_eq_true_iff, Bool.not_eq_true', beq_eq_false_iff_ne] at h
  exact ⟨h.1.2, by have := h.1.1; omega, rotX_le _⟩
theorem all_58 {l : List Nat} {f : Nat → Bool} (h : l.all f = true) (hf : f 58 = false) : 58 ∉ l := fun e => by
  rw [List.all_eq_true] at h
  rw [h 58 e] at hf
  cases hf
theorem cur_58 {l : List Nat} (h : curB l = true) : 58 ∉ l ∧ upB (l.headD 0) = true := by
  unfold curB at h
  rw [Bool.and_eq_true, Bool.and_eq_true, Bool.and_eq_true] at h
  exact ⟨all_58 h.1.2 rfl, h.1.1.2⟩
theorem key_58 {l : List Nat} (h : keyB l = true) : 58 ∉ l ∧ lwB (l.headD 0) = true := by
  unfold keyB at h
  rw [Bool.and_eq_true, Bool.and_eq_true] at h
  exact ⟨all_58 h.2 rfl, h.1.2⟩
theorem up_lw {c : Nat} (h : upB c = true) (h2 : lwB c = true) : False := by
  unfold upB at h
  unfold lwB at h2
  rw [Bool.and_eq_true, decide_eq_true_iff, decide_eq_true_iff] at h h2
  omega

set_option maxHeartbeats 16000000 in
set_option maxRecDepth 100000 in
theorem kinds11_law (s t : ByteArray) (w : World) (hm : MaxLen w) (hr : Roots w) : Calls Tryd.prog 5 #[.string s, .string t] w (Ret9 w (.bool true)) := by
  have HM := Lib.hid hm
  have HR := Lib.hid hr
  have E : Hid (Below w.heap.size w w) := Below.refl _ _
  clear hm hr
  rcases Nat.lt_or_ge 300 s.size with hs | hs
  · have ds : decide ((300 : Int) < (s.size : Int)) = true := decide_eq_true (by omega)
    go_enter Tryd.func5, Tryd.ntmps5
    go_wp2_with fail
    refine (awake11 _ (HM.out.on E.out) (HR.out.on E.out)).mono ?_; rintro e w1 ⟨rfl, hb⟩; replace E := Lib.hid (E.out.trans (hb.mono E.out.size)); clear hb
    go_wp2_with fail
    go_ret
    exact ⟨rfl, E.out⟩
  have ds : decide ((300 : Int) < (s.size : Int)) = false := decide_eq_false (by omega)
  have ms : s.size ≤ 1000000 := by omega
  rcases Nat.lt_or_ge 300 t.size with ht | ht
  · have dt : decide ((300 : Int) < (t.size : Int)) = true := decide_eq_true (by omega)
    go_enter Tryd.func5, Tryd.ntmps5
    go_wp2_with fail
    refine (awake11 _ (HM.out.on E.out) (HR.out.on E.out)).mono ?_; rintro e w1 ⟨rfl, hb⟩; replace E := Lib.hid (E.out.trans (hb.mono E.out.size)); clear hb
    go_wp2_with fail
    go_ret
    exact ⟨rfl, E.out⟩
  have dt : decide ((300 : Int) < (t.size : Int)) = false := decide_eq_false (by omega)
  have mt : t.size ≤ 1000000 := by omega
  obtain ⟨ra, hra⟩ : ∃ r, accB (bs9 s) = r := ⟨_, rfl⟩
  have Hra := Lib.hid hra
  clear hra
  obtain ⟨rc, hrc⟩ : ∃ r, curB (bs9 s) = r := ⟨_, rfl⟩
  have Hrc := Lib.hid hrc
  clear hrc
  obtain ⟨rk, hrk⟩ : ∃ r, keyB (bs9 s) = r := ⟨_, rfl⟩
  have Hrk := Lib.hid hrk
  clear hrk
  obtain ⟨z, hz⟩ : ∃ r, rot (bs9 s) = r := ⟨_, rfl⟩
  have Hz := Lib.hid hz
  clear hz
  obtain ⟨S, hS⟩ : ∃ S, s ++ ⟨#[58]⟩ = S := ⟨_, rfl⟩
  obtain ⟨Q, hQ⟩ : ∃ Q, S ++ t = Q := ⟨_, rfl⟩
  have hSb : bs9 S = bs9 s ++ [58] := by rw [← hS, bs9_append]; rfl
  have hQb : bs9 Q = bs9 s ++ 58 :: bs9 t := by rw [← hQ, bs9_append, hSb]; simp
  have hSs : S.size = s.size + 1 := by rw [← bs9_len S, hSb, List.length_append, bs9_len]; rfl
  have mQ : Q.size ≤ 1000000 := by rw [← bs9_len Q, hQb, List.length_append, List.length_cons, bs9_len, bs9_len]; omega
  have hadd : ∀ w, (Op.stringOp .add s ⟨#[58]⟩).run Tryd.prog w = .ok (.string S) w := fun w => add9 hSb.symm (by show s.size + 1 ≤ _; omega) w
  have hadd2 : ∀ w, (Op.stringOp .add S t).run Tryd.prog w = .ok (.string Q) w := fun w => add9 (by rw [← bs9_append, hQ]) (by omega) w
  have ZQ : Hid (rot (bs9 Q) = z) := by show _ = _; rw [hQb]; unfold rot; rw [hdc_app]; exact Hz.out
  have UQ : Hid (UB (bs9 Q) (bs9 s) true) := ⟨fun _ => rfl, fun _ => .inr (.inr ⟨_, hQb⟩)⟩
  obtain ⟨rq, hrq⟩ : ∃ r, accB (bs9 Q) = r := ⟨_, rfl⟩
  have Hrq := Lib.hid hrq
  have A1 : Hid (ra = true → rc = false ∧ rk = false ∧ 1 ≤ z ∧ z ≤ 5) := fun h => by
    have k := acc_58 (Hra.out.trans h)
    refine ⟨?_, ?_, by have := Hz.out; omega, by have := Hz.out; omega⟩
    · cases hc : rc with
      | false => rfl
      | true => exact absurd k.1 (cur_58 (Hrc.out.trans hc)).1
    · cases hc : rk with
      | false => rfl
      | true => exact absurd k.1 (key_58 (Hrk.out.trans hc)).1
  have A2 : Hid (rc = true → rk = false) := fun h => by
    cases hc : rk with
    | false => rfl
    | true => exact (up_lw (cur_58 (Hrc.out.trans h)).2 (key_58 (Hrk.out.trans hc)).2).elim
  have ez : ((z : Int) == (z : Int)) = true := beq_self_eq_true _
  clear hS hQ hSb hQb hSs hrq
  cases ra with
  | true =>
    obtain ⟨rfl, rfl, hz1, hz5⟩ := A1.out rfl
    have e1 : decide ((z : Int) < 1) = false := decide_eq_false (by omega)
    have e2 : decide ((5 : Int) < (z : Int)) = false := decide_eq_false (by omega)
    cases rq with
    | false =>
      go_enter Tryd.func5, Tryd.ntmps5
      go_wp2_with fail
      refine (account_is Hra.out ms (HM.out.on E.out) (HR.out.on E.out)).mono ?_; rintro e w1 ⟨rfl, hb⟩; replace E := Lib.hid (E.out.trans (hb.mono E.out.size)); clear hb
      go_wp2_with fail
      refine (q9 (currency_is Hrc.out ms _)).mono ?_; rintro e w1 ⟨rfl, hb⟩; replace E := Lib.hid (E.out.trans (hb.mono E.out.size)); clear hb
      go_wp2_with fail
      refine (q9 (key_is Hrk.out ms _)).mono ?_; rintro e w1 ⟨rfl, hb⟩; replace E := Lib.hid (E.out.trans (hb.mono E.out.size)); clear hb
      go_wp2_with fail
      refine (root_is Hz.out ms (HM.out.on E.out) (HR.out.on E.out)).mono ?_; rintro e w1 ⟨rfl, hb⟩; replace E := Lib.hid (E.out.trans (hb.mono E.out.size)); clear hb
      go_wp2_with fail
      refine (root_is Hz.out ms (HM.out.on E.out) (HR.out.on E.out)).mono ?_; rintro e w1 ⟨rfl, hb⟩; replace E := Lib.hid (E.out.trans (hb.mono E.out.size)); clear hb
      go_wp2_with fail
      refine (q9 (currency_is Hrc.out ms _)).mono ?_; rintro e w1 ⟨rfl, hb⟩; replace E := Lib.hid (E.out.trans (hb.mono E.out.size)); clear hb
      go_wp2_with fail
      refine (account_is Hrq.out mQ (HM.out.on E.out) (HR.out.on E.out)).mono ?_; rintro e w1 ⟨rfl, hb⟩; replace E := Lib.hid (E.out.trans (hb.mono E.out.size)); clear hb
      go_wp2_with fail
      refine (awake11 _ (HM.out.on E.out) (HR.out.on E.out)).mono ?_; rintro e w1 ⟨rfl, hb⟩; replace E := Lib.hid (E.out.trans (hb.mono E.out.size)); clear hb
      go_wp2_with fail
      go_ret
      exact ⟨rfl, E.out⟩
    | true =>
      go_enter Tryd.func5, Tryd.ntmps5
      go_wp2_with fail
      refine (account_is Hra.out ms (HM.out.on E.out) (HR.out.on E.out)).mono ?_; rintro e w1 ⟨rfl, hb⟩; replace E := Lib.hid (E.out.trans (hb.mono E.out.size)); clear hb
      go_wp2_with fail
      refine (q9 (currency_is Hrc.out ms _)).mono ?_; rintro e w1 ⟨rfl, hb⟩; replace E := Lib.hid (E.out.trans (hb.mono E.out.size)); clear hb
      go_wp2_with fail
      refine (q9 (key_is Hrk.out ms _)).mono ?_; rintro e w1 ⟨rfl, hb⟩; replace E := Lib.hid (E.out.trans (hb.mono E.out.size)); clear hb
      go_wp2_with fail
      refine (root_is Hz.out ms (HM.out.on E.out) (HR.out.on E.out)).mono ?_; rintro e w1 ⟨rfl, hb⟩; replace E := Lib.hid (E.out.trans (hb.mono E.out.size)); clear hb
      go_wp2_with fail
      refine (root_is Hz.out ms (HM.out.on E.out) (HR.out.on E.out)).mono ?_; rintro e w1 ⟨rfl, hb⟩; replace E := Lib.hid (E.out.trans (hb.mono E.out.size)); clear hb
      go_wp2_with fail
      refine (q9 (currency_is Hrc.out ms _)).mono ?_; rintro e w1 ⟨rfl, hb⟩; replace E := Lib.hid (E.out.trans (hb.mono E.out.size)); clear hb
      go_wp2_with fail
      refine (account_is Hrq.out mQ (HM.out.on E.out) (HR.out.on E.out)).mono ?_; rintro e w1 ⟨rfl, hb⟩; replace E := Lib.hid (E.out.trans (hb.mono E.out.size)); clear hb
      go_wp2_with fail
      refine (root_is ZQ.out mQ (HM.out.on E.out) (HR.out.on E.out)).mono ?_; rintro e w1 ⟨rfl, hb⟩; replace E := Lib.hid (E.out.trans (hb.mono E.out.size)); clear hb
      go_wp2_with fail
      refine (root_is Hz.out ms (HM.out.on E.out) (HR.out.on E.out)).mono ?_; rintro e w1 ⟨rfl, hb⟩; replace E := Lib.hid (E.out.trans (hb.mono E.out.size)); clear hb
      go_wp2_with fail
      refine (q9 (under_is UQ.out mQ ms _)).mono ?_; rintro e w1 ⟨rfl, hb⟩; replace E := Lib.hid (E.out.trans (hb.mono E.out.size)); clear hb
      go_wp2_with fail
      refine (awake11 _ (HM.out.on E.out) (HR.out.on E.out)).mono ?_; rintro e w1 ⟨rfl, hb⟩; replace E := Lib.hid (E.out.trans (hb.mono E.out.size)); clear hb
      go_wp2_with fail
      go_ret
      exact ⟨rfl, E.out⟩
  | false =>
    cases rc with
    | false =>
      cases rq with
      | false =>
        go_enter Tryd.func5, Tryd.ntmps5
        go_wp2_with fail
        refine (account_is Hra.out ms (HM.out.on E.out) (HR.out.on E.out)).mono ?_; rintro e w1 ⟨rfl, hb⟩; replace E := Lib.hid (E.out.trans (hb.mono E.out.size)); clear hb
        go_wp2_with fail
        refine (q9 (currency_is Hrc.out ms _)).mono ?_; rintro e w1 ⟨rfl, hb⟩; replace E := Lib.hid (E.out.trans (hb.mono E.out.size)); clear hb
        go_wp2_with fail
        refine (account_is Hrq.out mQ (HM.out.on E.out) (HR.out.on E.out)).mono ?_; rintro e w1 ⟨rfl, hb⟩; replace E := Lib.hid (E.out.trans (hb.mono E.out.size)); clear hb
        go_wp2_with fail
        refine (awake11 _ (HM.out.on E.out) (HR.out.on E.out)).mono ?_; rintro e w1 ⟨rfl, hb⟩; replace E := Lib.hid (E.out.trans (hb.mono E.out.size)); clear hb
        go_wp2_with fail
        go_ret
        exact ⟨rfl, E.out⟩
      | true =>
        go_enter Tryd.func5, Tryd.ntmps5
        go_wp2_with fail
        refine (account_is Hra.out ms (HM.out.on E.out) (HR.out.on E.out)).mono ?_; rintro e w1 ⟨rfl, hb⟩; replace E := Lib.hid (E.out.trans (hb.mono E.out.size)); clear hb
        go_wp2_with fail
        refine (q9 (currency_is Hrc.out ms _)).mono ?_; rintro e w1 ⟨rfl, hb⟩; replace E := Lib.hid (E.out.trans (hb.mono E.out.size)); clear hb
        go_wp2_with fail
        refine (account_is Hrq.out mQ (HM.out.on E.out) (HR.out.on E.out)).mono ?_; rintro e w1 ⟨rfl, hb⟩; replace E := Lib.hid (E.out.trans (hb.mono E.out.size)); clear hb
        go_wp2_with fail
        refine (root_is ZQ.out mQ (HM.out.on E.out) (HR.out.on E.out)).mono ?_; rintro e w1 ⟨rfl, hb⟩; replace E := Lib.hid (E.out.trans (hb.mono E.out.size)); clear hb
        go_wp2_with fail
        refine (root_is Hz.out ms (HM.out.on E.out) (HR.out.on E.out)).mono ?_; rintro e w1 ⟨rfl, hb⟩; replace E := Lib.hid (E.out.trans (hb.mono E.out.size)); clear hb
        go_wp2_with fail
        refine (q9 (under_is UQ.out mQ ms _)).mono ?_; rintro e w1 ⟨rfl, hb⟩; replace E := Lib.hid (E.out.trans (hb.mono E.out.size)); clear hb
        go_wp2_with fail
        refine (awake11 _ (HM.out.on E.out) (HR.out.on E.out)).mono ?_; rintro e w1 ⟨rfl, hb⟩; replace E := Lib.hid (E.out.trans (hb.mono E.out.size)); clear hb
        go_wp2_with fail
        go_ret
        exact ⟨rfl, E.out⟩
    | true =>
      obtain rfl := A2.out rfl
      cases rq with
      | false =>
        go_enter Tryd.func5, Tryd.ntmps5
        go_wp2_with fail
        refine (account_is Hra.out ms (HM.out.on E.out) (HR.out.on E.out)).mono ?_; rintro e w1 ⟨rfl, hb⟩; replace E := Lib.hid (E.out.trans (hb.mono E.out.size)); clear hb
        go_wp2_with fail
        refine (q9 (currency_is Hrc.out ms _)).mono ?_; rintro e w1 ⟨rfl, hb⟩; replace E := Lib.hid (E.out.trans (hb.mono E.out.size)); clear hb
        go_wp2_with fail
        refine (q9 (key_is Hrk.out ms _)).mono ?_; rintro e w1 ⟨rfl, hb⟩; replace E := Lib.hid (E.out.trans (hb.mono E.out.size)); clear hb
        go_wp2_with fail
        refine (account_is Hrq.out mQ (HM.out.on E.out) (HR.out.on E.out)).mono ?_; rintro e w1 ⟨rfl, hb⟩; replace E := Lib.hid (E.out.trans (hb.mono E.out.size)); clear hb
        go_wp2_with fail
        refine (awake11 _ (HM.out.on E.out) (HR.out.on E.out)).mono ?_; rintro e w1 ⟨rfl, hb⟩; replace E := Lib.hid (E.out.trans (hb.mono E.out.size)); clear hb
        go_wp2_with fail
        go_ret
        exact ⟨rfl, E.out⟩
      | true =>
        go_enter Tryd.func5, Tryd.ntmps5
        go_wp2_with fail
        refine (account_is Hra.out ms (HM.out.on E.out) (HR.out.on E.out)).mono ?_; rintro e w1 ⟨rfl, hb⟩; replace E := Lib.hid (E.out.trans (hb.mono E.out.size)); clear hb
        go_wp2_with fail
        refine (q9 (currency_is Hrc.out ms _)).mono ?_; rintro e w1 ⟨rfl, hb⟩; replace E := Lib.hid (E.out.trans (hb.mono E.out.size)); clear hb
        go_wp2_with fail
        refine (q9 (key_is Hrk.out ms _)).mono ?_; rintro e w1 ⟨rfl, hb⟩; replace E := Lib.hid (E.out.trans (hb.mono E.out.size)); clear hb
        go_wp2_with fail
        refine (account_is Hrq.out mQ (HM.out.on E.out) (HR.out.on E.out)).mono ?_; rintro e w1 ⟨rfl, hb⟩; replace E := Lib.hid (E.out.trans (hb.mono E.out.size)); clear hb
        go_wp2_with fail
        refine (root_is ZQ.out mQ (HM.out.on E.out) (HR.out.on E.out)).mono ?_; rintro e w1 ⟨rfl, hb⟩; replace E := Lib.hid (E.out.trans (hb.mono E.out.size)); clear hb
        go_wp2_with fail
        refine (root_is Hz.out ms (HM.out.on E.out) (HR.out.on E.out)).mono ?_; rintro e w1 ⟨rfl, hb⟩; replace E := Lib.hid (E.out.trans (hb.mono E.out.size)); clear hb
        go_wp2_with fail
        refine (q9 (under_is UQ.out mQ ms _)).mono ?_; rintro e w1 ⟨rfl, hb⟩; replace E := Lib.hid (E.out.trans (hb.mono E.out.size)); clear hb
        go_wp2_with fail
        refine (awake11 _ (HM.out.on E.out) (HR.out.on E.out)).mono ?_; rintro e w1 ⟨rfl, hb⟩; replace E := Lib.hid (E.out.trans (hb.mono E.out.size)); clear hb
        go_wp2_with fail
        go_ret
        exact ⟨rfl, E.out⟩

end Go.Proofs.YtaaikbbgbnbmkaaDoor
