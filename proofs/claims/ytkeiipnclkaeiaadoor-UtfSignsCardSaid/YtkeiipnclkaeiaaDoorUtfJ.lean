/-
  UtfSigns answers true.
-/
import Derived.Test.YtkeiipnclkaeiaaDoorUtfH
set_option linter.unusedVariables false
set_option linter.unusedSimpArgs false
namespace Go.Proofs.YtkeiipnclkaeiaaDoor
open Go.RowKit

set_option maxHeartbeats 4000000 in
set_option maxRecDepth 100000 in
theorem signs9_law (x y : Int) (s : ByteArray) (w : World) (hT : Tabs9 w) : Calls Tryd.prog 4 #[.int .i64 x, .int .i64 y, .string s] w (Ret9 w (.bool true)) := by
  have HT := Lib.hid hT
  clear hT
  have E : Hid (Below w.heap.size w w) := Below.refl _ _
  rcases Nat.lt_or_ge 300 s.size with hb | hb
  · skip
    go_enter Tryd.func4, Tryd.ntmps4
    go_wp2_with fail
    refine (awake9 _ (HT.out.on E.out)).mono ?_; rintro e w1 ⟨rfl, hb⟩; replace E := Lib.hid (E.out.trans (hb.mono E.out.size)); clear hb
    go_wp2_with fail
    go_ret
    exact ⟨rfl, E.out⟩
  obtain ⟨A, hA⟩ : ∃ t, enS x = t := ⟨_, rfl⟩
  obtain ⟨B, hB⟩ : ∃ t, enS y = t := ⟨_, rfl⟩
  have TA := Lib.hid hA
  have TB := Lib.hid hB
  by_cases hx : 0 ≤ x ∧ Sg x.toNat
  case neg =>
    have KA : Hid (enE x = 1) := by show _ = _; unfold enE; rw [if_neg hx]
    obtain ⟨k, hk⟩ : ∃ k, enE y = k := ⟨_, rfl⟩
    have KB := Lib.hid hk
    clear hk hA hB hx
    go_enter Tryd.func4, Tryd.ntmps4
    go_wp2_with fail
    refine (encode_is (HT.out.on E.out) TA.out KA.out).mono ?_; rintro e w1 ⟨rfl, hb⟩; replace E := Lib.hid (E.out.trans (hb.mono E.out.size)); clear hb
    go_wp2_with fail
    refine (encode_is (HT.out.on E.out) TB.out KB.out).mono ?_; rintro e w2 ⟨rfl, hb⟩; replace E := Lib.hid (E.out.trans (hb.mono E.out.size)); clear hb
    go_wp2_with fail
    refine (awake9 _ (HT.out.on E.out)).mono ?_; rintro e w3 ⟨rfl, hb⟩; replace E := Lib.hid (E.out.trans (hb.mono E.out.size)); clear hb
    go_wp2_with fail
    go_ret
    exact ⟨rfl, E.out⟩
  have KA : Hid (enE x = 0) := by show _ = _; unfold enE; rw [if_pos hx]
  by_cases hy : 0 ≤ y ∧ Sg y.toNat
  case neg =>
    have KB : Hid (enE y = 1) := by show _ = _; unfold enE; rw [if_neg hy]
    clear hA hB hx hy
    go_enter Tryd.func4, Tryd.ntmps4
    go_wp2_with fail
    refine (encode_is (HT.out.on E.out) TA.out KA.out).mono ?_; rintro e w1 ⟨rfl, hb⟩; replace E := Lib.hid (E.out.trans (hb.mono E.out.size)); clear hb
    go_wp2_with fail
    refine (encode_is (HT.out.on E.out) TB.out KB.out).mono ?_; rintro e w2 ⟨rfl, hb⟩; replace E := Lib.hid (E.out.trans (hb.mono E.out.size)); clear hb
    go_wp2_with fail
    refine (awake9 _ (HT.out.on E.out)).mono ?_; rintro e w3 ⟨rfl, hb⟩; replace E := Lib.hid (E.out.trans (hb.mono E.out.size)); clear hb
    go_wp2_with fail
    go_ret
    exact ⟨rfl, E.out⟩
  have KB : Hid (enE y = 0) := by show _ = _; unfold enE; rw [if_pos hy]
  obtain ⟨X, hX⟩ : ∃ X, x.toNat = X := ⟨_, rfl⟩
  obtain ⟨Y, hY⟩ : ∃ Y, y.toNat = Y := ⟨_, rfl⟩
  rw [hX] at hx
  rw [hY] at hy
  have hA2 : bs9 A = enc X := by rw [← hA]; unfold enS; rw [hX, if_pos hx, bs9_st9 (enc_lt hx.2)]
  have hB2 : bs9 B = enc Y := by rw [← hB]; unfold enS; rw [hY, if_pos hy, bs9_st9 (enc_lt hy.2)]
  have hAs : A.size = lng X := by rw [← bs9_len, hA2, enc_len]
  have hBs : B.size = lng Y := by rw [← bs9_len, hB2, enc_len]
  have lX := lng_pos X
  have lY := lng_pos Y
  obtain ⟨n, hn⟩ : ∃ n, lng X = n := ⟨_, rfl⟩
  rw [hn] at hAs lX
  have n1 := lX.1
  have n4 := lX.2
  have hAd : A.size ≤ 4 := by omega
  have hBd : B.size ≤ 4 := by omega
  have HAH : Hid (∀ i, i < n → szl ((bs9 A).take i) = 0) := fun i hi => by rw [hA2]; exact enc_ahead hx.2 (by omega)
  obtain ⟨P, hP⟩ : ∃ P, A ++ s = P := ⟨_, rfl⟩
  obtain ⟨Q, hQ⟩ : ∃ Q, A ++ B = Q := ⟨_, rfl⟩
  have hPs : P.size ≤ 1000000 := by rw [← hP, ByteArray.size_append]; omega
  have hQs : Q.size ≤ 1000000 := by rw [← hQ, ByteArray.size_append]; omega
  have ha1 : ∀ w', (Op.stringOp .add A s).run Tryd.prog w' = .ok (.string P) w' := fun w' => add9 (by rw [← hP, bs9_append]) (by omega) w'
  have ha2 : ∀ w', (Op.stringOp .add A B).run Tryd.prog w' = .ok (.string Q) w' := fun w' => add9 (by rw [← hQ, bs9_append]) (by omega) w'
  have HP : Hid (szl (bs9 P) = n) := by show _ = _; rw [← hP, bs9_append, hA2, enc_size hx.2, hn]
  have HQ1 : Hid ((badl (bs9 Q) == none) = true) := by show _ = _; rw [← hQ, bs9_append, hA2, hB2, (enc_two hx.2 hy.2).1]; rfl
  have HQ2 : Hid (cntl (bs9 Q) = 2) := by show _ = _; rw [← hQ, bs9_append, hA2, hB2, (enc_two hx.2 hy.2).2]
  have hab : (A.toList == B.toList) = (x == y) := by
    rw [ByteArray.toList_eq, ByteArray.toList_eq, Bool.eq_iff_iff, beq_iff_eq, beq_iff_eq]
    constructor
    · intro e
      have e2 : bs9 A = bs9 B := by unfold bs9; rw [e]
      rw [hA2, hB2] at e2
      have := enc_inj hx.2 hy.2 e2
      omega
    · intro e
      have e2 : X = Y := by omega
      have e3 : A = B := bs9_inj (by rw [hA2, hB2, e2])
      rw [e3]
  obtain ⟨c, hc⟩ : ∃ c, (x == y) = c := ⟨_, rfl⟩
  rw [hc] at hab
  clear hA hB hX hY hx hy hA2 hB2 hn hP hQ lX lY
  go_enter Tryd.func4, Tryd.ntmps4
  go_wp2_with fail
  refine (encode_is (HT.out.on E.out) TA.out KA.out).mono ?_; rintro e w1 ⟨rfl, hb⟩; replace E := Lib.hid (E.out.trans (hb.mono E.out.size)); clear hb
  go_wp2_with fail
  refine (encode_is (HT.out.on E.out) TB.out KB.out).mono ?_; rintro e w2 ⟨rfl, hb⟩; replace E := Lib.hid (E.out.trans (hb.mono E.out.size)); clear hb
  go_wp2_with fail
  obtain ⟨W1, hW1⟩ : ∃ W1, w2 = W1 := ⟨_, rfl⟩
  rw [hW1] at E ⊢
  clear hW1
  go_loopw [35] (fun jv wr => ∃ j : Nat, jv = .int .i64 j ∧ j ≤ n ∧ Below w.heap.size w wr) (fun jv _ => n - (intOf jv).toNat)
  case atStart => exact ⟨0, rfl, Nat.zero_le _, E.out⟩
  case round =>
    obtain ⟨j, rfl, hj, he⟩ := hrel
    clear E
    have E := Lib.hid he
    clear he
    rcases Nat.lt_or_ge j n with hjn | hjn
    · obtain ⟨Z, hZ⟩ : ∃ Z, A.extract 0 j = Z := ⟨_, rfl⟩
      have hZs : Z.size ≤ 1000000 := by rw [← hZ, ByteArray.size_extract]; omega
      have HZ : Hid (szl (bs9 Z) = 0) := by show _ = _; rw [← hZ, bs9_take]; exact HAH.out j hjn
      have hsl : ∀ w', (Instr.slice 9 (.string A) none (some (.int .i64 (j : Int))) none).run Tryd.prog w' = .ok (.string Z) w' := sl_to (by omega) hZ
      clear hZ
      go_wp2_with fail
      refine (size_is (HT.out.on E.out) HZ.out hZs).mono ?_; rintro e w1 ⟨rfl, hb⟩; replace E := Lib.hid (E.out.trans (hb.mono E.out.size)); clear hb
      go_wp2_with fail
      go_roundw
      case rel => exact ⟨j + 1, by go_num, by omega, E.out⟩
      case measure => simp [intOf]; omega
    · obtain rfl : j = n := by omega
      go_wp2_with fail
      refine (size_is (HT.out.on E.out) HP.out hPs).mono ?_; rintro e w1 ⟨rfl, hb⟩; replace E := Lib.hid (E.out.trans (hb.mono E.out.size)); clear hb
      go_wp2_with fail
      refine (right_is (HT.out.on E.out) HQ1.out hQs).mono ?_; rintro e w2 ⟨rfl, hb⟩; replace E := Lib.hid (E.out.trans (hb.mono E.out.size)); clear hb
      go_wp2_with fail
      refine (count_is (HT.out.on E.out) HQ2.out hQs).mono ?_; rintro e w3 ⟨rfl, hb⟩; replace E := Lib.hid (E.out.trans (hb.mono E.out.size)); clear hb
      go_wp2_with fail
      refine (awake9 _ (HT.out.on E.out)).mono ?_; rintro e w4 ⟨rfl, hb⟩; replace E := Lib.hid (E.out.trans (hb.mono E.out.size)); clear hb
      go_wp2_with fail
      go_ret
      exact ⟨rfl, E.out⟩

end Go.Proofs.YtkeiipnclkaeiaaDoor
