/-
  UtfJoins answers true.
-/
import Derived.Test.YtkeiipnclkaeiaaDoorUtfH
set_option linter.unusedVariables false
set_option linter.unusedSimpArgs false
namespace Go.Proofs.YtkeiipnclkaeiaaDoor
open Go.RowKit

set_option maxHeartbeats 4000000 in
set_option maxRecDepth 100000 in
theorem joins9_law (a b : ByteArray) (w : World) (hT : Tabs9 w) : Calls Tryd.prog 5 #[.string a, .string b] w (Ret9 w (.bool true)) := by
  have HT := Lib.hid hT
  clear hT
  have E : Hid (Below w.heap.size w w) := Below.refl _ _
  by_cases ha : 300 < a.size
  case pos =>
    go_enter Tryd.func5, Tryd.ntmps5
    go_wp2_with fail
    refine (awake9 _ (HT.out.on E.out)).mono ?_; rintro e w1 ⟨rfl, hb⟩; replace E := Lib.hid (E.out.trans (hb.mono E.out.size)); clear hb
    go_wp2_with fail
    go_ret
    exact ⟨rfl, E.out⟩
  by_cases hb : 300 < b.size
  case pos =>
    go_enter Tryd.func5, Tryd.ntmps5
    go_wp2_with fail
    refine (awake9 _ (HT.out.on E.out)).mono ?_; rintro e w1 ⟨rfl, hb⟩; replace E := Lib.hid (E.out.trans (hb.mono E.out.size)); clear hb
    go_wp2_with fail
    go_ret
    exact ⟨rfl, E.out⟩
  have has : a.size ≤ 1000000 := by omega
  have hbs : b.size ≤ 1000000 := by omega
  have ha' : a.size ≤ 300 := by omega
  have hb' : b.size ≤ 300 := by omega
  clear ha hb
  cases ho : badl (bs9 a)
  case some N =>
    obtain ⟨g1, g2⟩ := bad_some _ (Nat.le_refl _) ho
    rw [bs9_len] at g1
    have H1 : Hid (io9 (badl (bs9 a)) = (N : Int)) := by show _ = _; rw [ho]; rfl
    have H3 : Hid ((badl (bs9 a) == none) = false) := by show _ = _; rw [ho]; rfl
    obtain ⟨Z, hZ⟩ : ∃ Z, a.extract 0 N = Z := ⟨_, rfl⟩
    have hZs : Z.size ≤ 1000000 := by rw [← hZ, ByteArray.size_extract]; omega
    have H2 : Hid ((badl (bs9 Z) == none) = true) := by show _ = _; rw [← hZ, bs9_take, g2]; rfl
    have hsl : ∀ w', (Instr.slice 9 (.string a) none (some (.int .i64 (N : Int))) none).run Tryd.prog w' = .ok (.string Z) w' := sl_to (by omega) hZ
    clear hZ ho g2
    go_enter Tryd.func5, Tryd.ntmps5
    go_wp2_with fail
    refine (bad_is (HT.out.on E.out) H1.out has).mono ?_; rintro e w1 ⟨rfl, hb⟩; replace E := Lib.hid (E.out.trans (hb.mono E.out.size)); clear hb
    go_wp2_with fail
    refine (right_is (HT.out.on E.out) H2.out hZs).mono ?_; rintro e w2 ⟨rfl, hb⟩; replace E := Lib.hid (E.out.trans (hb.mono E.out.size)); clear hb
    go_wp2_with fail
    refine (right_is (HT.out.on E.out) H3.out has).mono ?_; rintro e w3 ⟨rfl, hb⟩; replace E := Lib.hid (E.out.trans (hb.mono E.out.size)); clear hb
    go_wp2_with fail
    refine (awake9 _ (HT.out.on E.out)).mono ?_; rintro e w4 ⟨rfl, hb⟩; replace E := Lib.hid (E.out.trans (hb.mono E.out.size)); clear hb
    go_wp2_with fail
    go_ret
    exact ⟨rfl, E.out⟩
  case none =>
    have H1 : Hid (io9 (badl (bs9 a)) = -1) := by show _ = _; rw [ho]; rfl
    obtain ⟨P, hP⟩ : ∃ P, a ++ b = P := ⟨_, rfl⟩
    have hPs : P.size ≤ 1000000 := by rw [← hP, ByteArray.size_append]; omega
    have ha1 : ∀ w', (Op.stringOp .add a b).run Tryd.prog w' = .ok (.string P) w' := fun w' => add9 (by rw [← hP, bs9_append]) (by omega) w'
    obtain ⟨g1, g2⟩ := bad_none _ (bs9 b) (Nat.le_refl _) ho
    rw [← bs9_append, hP] at g1 g2
    rw [bs9_len] at g1
    obtain ⟨ca, hca⟩ : ∃ c, cntl (bs9 a) = c := ⟨_, rfl⟩
    obtain ⟨cb, hcb⟩ : ∃ c, cntl (bs9 b) = c := ⟨_, rfl⟩
    rw [hca, hcb] at g2
    have hcab : ca ≤ a.size := by rw [← hca, ← bs9_len]; exact cntl_len _
    have hcbb : cb ≤ b.size := by rw [← hcb, ← bs9_len]; exact cntl_len _
    have C1 := Lib.hid g2
    have C2 := Lib.hid hca
    have C3 := Lib.hid hcb
    clear g2 hca hcb
    cases hbo : badl (bs9 b)
    case none =>
      have H2 : Hid (io9 (badl (bs9 P)) = -1) := by show _ = _; rw [g1, hbo]; rfl
      have H3 : Hid (io9 (badl (bs9 b)) = -1) := by show _ = _; rw [hbo]; rfl
      clear ho hP g1 hbo
      go_enter Tryd.func5, Tryd.ntmps5
      go_wp2_with fail
      refine (bad_is (HT.out.on E.out) H1.out has).mono ?_; rintro e w1 ⟨rfl, hb⟩; replace E := Lib.hid (E.out.trans (hb.mono E.out.size)); clear hb
      go_wp2_with fail
      refine (bad_is (HT.out.on E.out) H2.out hPs).mono ?_; rintro e w2 ⟨rfl, hb⟩; replace E := Lib.hid (E.out.trans (hb.mono E.out.size)); clear hb
      go_wp2_with fail
      refine (bad_is (HT.out.on E.out) H3.out hbs).mono ?_; rintro e w3 ⟨rfl, hb⟩; replace E := Lib.hid (E.out.trans (hb.mono E.out.size)); clear hb
      go_wp2_with fail
      refine (count_is (HT.out.on E.out) C1.out hPs).mono ?_; rintro e w4 ⟨rfl, hb⟩; replace E := Lib.hid (E.out.trans (hb.mono E.out.size)); clear hb
      go_wp2_with fail
      refine (count_is (HT.out.on E.out) C2.out has).mono ?_; rintro e w5 ⟨rfl, hb⟩; replace E := Lib.hid (E.out.trans (hb.mono E.out.size)); clear hb
      go_wp2_with fail
      refine (count_is (HT.out.on E.out) C3.out hbs).mono ?_; rintro e w6 ⟨rfl, hb⟩; replace E := Lib.hid (E.out.trans (hb.mono E.out.size)); clear hb
      go_wp2_with fail
      refine (awake9 _ (HT.out.on E.out)).mono ?_; rintro e w7 ⟨rfl, hb⟩; replace E := Lib.hid (E.out.trans (hb.mono E.out.size)); clear hb
      go_wp2_with fail
      go_ret
      exact ⟨rfl, E.out⟩
    case some M =>
      obtain ⟨k1, _⟩ := bad_some _ (Nat.le_refl _) hbo
      rw [bs9_len] at k1
      have H2 : Hid (io9 (badl (bs9 P)) = ((M + a.size : Nat) : Int)) := by show _ = _; rw [g1, hbo]; rfl
      have H3 : Hid (io9 (badl (bs9 b)) = (M : Int)) := by show _ = _; rw [hbo]; rfl
      obtain ⟨K, hK⟩ : ∃ K, M + a.size = K := ⟨_, rfl⟩
      rw [hK] at H2
      have hK2 : (a.size : Int) + (M : Int) = (K : Int) := by omega
      clear ho hP g1 hbo hK
      go_enter Tryd.func5, Tryd.ntmps5
      go_wp2_with fail
      refine (bad_is (HT.out.on E.out) H1.out has).mono ?_; rintro e w1 ⟨rfl, hb⟩; replace E := Lib.hid (E.out.trans (hb.mono E.out.size)); clear hb
      go_wp2_with fail
      refine (bad_is (HT.out.on E.out) H2.out hPs).mono ?_; rintro e w2 ⟨rfl, hb⟩; replace E := Lib.hid (E.out.trans (hb.mono E.out.size)); clear hb
      go_wp2_with fail
      refine (bad_is (HT.out.on E.out) H3.out hbs).mono ?_; rintro e w3 ⟨rfl, hb⟩; replace E := Lib.hid (E.out.trans (hb.mono E.out.size)); clear hb
      go_wp2_with fail
      refine (bad_is (HT.out.on E.out) H3.out hbs).mono ?_; rintro e w4 ⟨rfl, hb⟩; replace E := Lib.hid (E.out.trans (hb.mono E.out.size)); clear hb
      go_wp2_with fail
      refine (count_is (HT.out.on E.out) C1.out hPs).mono ?_; rintro e w5 ⟨rfl, hb⟩; replace E := Lib.hid (E.out.trans (hb.mono E.out.size)); clear hb
      go_wp2_with fail
      refine (count_is (HT.out.on E.out) C2.out has).mono ?_; rintro e w6 ⟨rfl, hb⟩; replace E := Lib.hid (E.out.trans (hb.mono E.out.size)); clear hb
      go_wp2_with fail
      refine (count_is (HT.out.on E.out) C3.out hbs).mono ?_; rintro e w7 ⟨rfl, hb⟩; replace E := Lib.hid (E.out.trans (hb.mono E.out.size)); clear hb
      go_wp2_with fail
      refine (awake9 _ (HT.out.on E.out)).mono ?_; rintro e w8 ⟨rfl, hb⟩; replace E := Lib.hid (E.out.trans (hb.mono E.out.size)); clear hb
      go_wp2_with fail
      go_ret
      exact ⟨rfl, E.out⟩

end Go.Proofs.YtkeiipnclkaeiaaDoor
