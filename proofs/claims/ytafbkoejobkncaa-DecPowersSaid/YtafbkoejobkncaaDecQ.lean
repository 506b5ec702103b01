/-
  Contracts of layer 5, the fourteenth part: Power and the document's.
-/
import Derived.Test.YtafbkoejobkncaaDecN
import Derived.Deep.QuietTactic
import Derived.BigQuiet
namespace Go.Proofs.Ytafbkoejobkncaa
open Go.RowKit

/-- A decimal comes back, and no error. -/
def RetDecE (W : World) (i : Int) (s : Nat) (e : Ending) (w' : World) : Prop :=
  ∃ A n c, e = .returned (.tuple #[.agg #[.bool (ngB i), .slice A n c, .int .i64 (s : Int)], .int .i64 0]) ∧ Num w' w'.heap.size A n c i.natAbs ∧ Below W.heap.size W w'
theorem abs_pow (i : Int) (k : Nat) : i.natAbs ^ k = (i ^ k).natAbs := (Int.natAbs_pow i k).symm
theorem pow_sign (i : Int) (h : i < 0) (k : Nat) : (k % 2 = 1 → i ^ k < 0) ∧ (k % 2 = 0 → 0 < i ^ k) := by
  induction k with
  | zero => exact ⟨fun h => by omega, fun _ => by rw [Int.pow_zero]; omega⟩
  | succ k ih =>
    rw [Int.pow_succ]
    refine ⟨fun h1 => ?_, fun h1 => ?_⟩
    · exact Int.mul_neg_of_pos_of_neg (ih.2 (by omega)) h
    · exact Int.mul_pos_of_neg_of_neg (ih.1 (by omega)) h
theorem sgn_pow_odd {i : Int} {k : Nat} (h : i < 0) (ho : k % 2 = 1) : sgn true (i ^ k).natAbs = i ^ k := by
  have e : ∀ a : Nat, sgn true a = -(a : Int) := fun a => rfl
  have := (pow_sign i h k).1 ho
  rw [e]; omega
theorem sgn_pow_even {i : Int} {k : Nat} (h : i < 0) (ho : k % 2 = 0) : sgn false (i ^ k).natAbs = i ^ k := by
  have := (pow_sign i h k).2 ho
  rw [sgn_false]; omega
theorem sgn_pow_pos {i : Int} {k : Nat} (h : 0 ≤ i) : sgn false (i ^ k).natAbs = i ^ k := by
  have : 0 ≤ i ^ k := Int.pow_nonneg h
  rw [sgn_false]; omega

set_option maxHeartbeats 2000000 in
theorem power5_neg (A : Option Addr) (n c s : Nat) (i v : Int) (w : World) (hv : v < 0) :
    Calls Try.prog 38 #[.agg #[.bool (ngB i), .slice A n c, .int .i64 (s : Int)], .int .i64 v] w (RetVal w (.tuple #[.agg #[.bool false, .slice none 0 0, .int .i64 0], .int .i64 1])) := by
  go_enter Try.func38, Try.ntmps38
  go_wp2_with fail
  generalize hW : World.alloc (World.alloc w _) _ = W0
  have E0 : St w W0 [] [((w.heap.size + 1), .bool false, .slice none 0 0, .int .i64 0), (w.heap.size, (.bool (ngB i)), (.slice A n c), (.int .i64 (s : Int)))] := by rw [← hW]; exact ((St.start w (l := []) (fun q hq => by cases hq)).lay rfl).lay (by simp)
  have E := Lib.hid E0
  clear hW E0
  refine (power_neg A n c v _ hv).mono ?_; rintro e w1 ⟨rfl, hb1⟩; replace E := Lib.hid (St.step E.out hb1); clear hb1
  obtain ⟨r0, r1, r2, rf0, rf1, rf2, rlt⟩ := St.at_ (x0 := .bool false) (x1 := .slice none 0 0) (x2 := .int .i64 0) (g := (w.heap.size + 1)) E (by simp)
  go_wp2_with fail
  have EF := Lib.hid (St.store E.out (g := w.heap.size + 1) (x0 := .bool false) (x1 := .slice none 0 0) (x2 := .int .i64 0) (by simp) (noLimb_bool _) (noLimb_slice _ _ _) (noLimb_int _) [] (fun q hq => by cases hq) (.bool false) (.slice none 0 0) (.int .i64 0))
  obtain ⟨e0, e1, e2, _, _, _, _⟩ := St.at_ (x0 := .bool false) (x1 := .slice none 0 0) (x2 := .int .i64 0) (g := w.heap.size + 1) EF (by simp)
  exact bodyPost_ret (v := .tuple #[.agg #[.bool false, .slice none 0 0, .int .i64 0], .int .i64 1]) (by simp [results, Try.results38, go_sem, e0, e1, e2]) rfl ⟨rfl, EF.out.bel⟩

set_option maxHeartbeats 4000000 in
theorem power5_pos_z (A : Option Addr) (n c s k : Nat) (i : Int) (w : World) (h : Num w w.heap.size A n c i.natAbs) (hn : n ≤ 100) (hs : s ≤ 10000) (hk : k ≤ 255) (hk0 : k = 0) (h0 : 0 ≤ i) :
    Calls Try.prog 38 #[.agg #[.bool (ngB i), .slice A n c, .int .i64 (s : Int)], .int .i64 (k : Int)] w (RetDecE w (i ^ k) (s * k)) := by
  have H := Lib.hid h
  have hb : ngB i = false := decide_eq_false (by omega)
  have HX0 := sgn_pow_pos (k := k) h0
  have HP := Lib.hid (abs_pow i k)
  obtain ⟨x, hx⟩ : ∃ x, i ^ k = x := ⟨_, rfl⟩
  rw [hx] at HX0 HP
  rw [hx]
  have HX := Lib.hid HX0
  have hp0 : (0 : Int) ≤ (s : Int) * (k : Int) := Int.mul_nonneg (by omega) (by omega)
  have hpn : s * k ≤ 10000 * 255 := Nat.mul_le_mul hs hk
  obtain ⟨r, hr⟩ : ∃ r, s * k = r := ⟨_, rfl⟩
  have hpr : (s : Int) * (k : Int) = (r : Int) := by rw [← hr, Int.natCast_mul]
  rw [hr] at hpn ⊢
  have hpl : (s : Int) * (k : Int) ≤ 10000 * 255 := by rw [hpr]; omega
  have hrb : r ≤ 2550000 := by omega
  subst hk0
  have hr0 : r = 0 := by rw [← hr]; simp
  subst hr0
  have HB := Lib.hid hb
  clear hb h h0 HX0 hx hr hpn
  have hsm := max_zero (P := Try.prog) (s := s)
  go_enter Try.func38, Try.ntmps38
  go_wp2_with fail
  generalize hW : World.alloc (World.alloc w _) _ = W0
  have E0 : St w W0 [(A, n, c, (i).natAbs)] [((w.heap.size + 1), .bool false, .slice none 0 0, .int .i64 0), (w.heap.size, (.bool (ngB i)), (.slice A n c), (.int .i64 (s : Int)))] := by rw [← hW]; exact ((start_one H.out).lay rfl).lay (by simp)
  have E := Lib.hid E0
  clear hW E0
  obtain ⟨p0, p1, p2, pf0, pf1, pf2, plt⟩ := St.at_ (x0 := (.bool (ngB i))) (x1 := (.slice A n c)) (x2 := (.int .i64 (s : Int))) (g := w.heap.size) E (by simp)
  go_wp2_with fail
  refine (power_is (a := i.natAbs) (k := 0) (St.got E (by simp)) (by omega) (by omega) rfl HP.out).mono ?_; rintro e w2 ⟨A1, n1, c1, rfl, h1, hb1⟩; replace E := Lib.hid (St.push E.out hb1 h1); clear h1 hb1
  clear p0 p1 p2 pf0 pf1 pf2 plt
  obtain ⟨p0, p1, p2, pf0, pf1, pf2, plt⟩ := St.at_ (x0 := (.bool (ngB i))) (x1 := (.slice A n c)) (x2 := (.int .i64 (s : Int))) (g := w.heap.size) E (by simp)
  go_wp2_with fail
  go_quiet ((fail))
  clear p0 p1 p2 pf0 pf1 pf2 plt
  replace E := Lib.hid (St.step E.out (Below.of_quiet (n := nq)))
  obtain ⟨p0, p1, p2, pf0, pf1, pf2, plt⟩ := St.at_ (x0 := (.bool (ngB i))) (x1 := (.slice A n c)) (x2 := (.int .i64 (s : Int))) (g := w.heap.size) E (by simp)
  have hb := HB.out
  go_wp2_with fail
  clear hb
  clear hpr hp0 hpl
  refine (decimal_is (b := false) (A := A1) (n := n1) (c := c1) (s := 0) (St.got E (by simp)) (by omega) HX.out).mono ?_; rintro e w3 ⟨rfl, hb1⟩; replace E := Lib.hid (St.step E.out hb1); clear hb1
  clear p0 p1 p2 pf0 pf1 pf2 plt
  obtain ⟨r0, r1, r2, rf0, rf1, rf2, rlt⟩ := St.at_ (x0 := .bool false) (x1 := .slice none 0 0) (x2 := .int .i64 0) (g := (w.heap.size + 1)) E (by simp)
  go_wp2_with fail
  have EF := Lib.hid (St.store E.out (g := w.heap.size + 1) (x0 := .bool false) (x1 := .slice none 0 0) (x2 := .int .i64 0) (by simp) (noLimb_bool _) (noLimb_slice _ _ _) (noLimb_int _) [] (fun q hq => by cases hq) (.bool (ngB x)) (.slice A1 n1 c1) (.int .i64 0))
  obtain ⟨e0, e1, e2, _, _, _, _⟩ := St.at_ (x0 := .bool (ngB x)) (x1 := .slice A1 n1 c1) (x2 := .int .i64 0) (g := w.heap.size + 1) EF (by simp)
  exact bodyPost_ret (v := .tuple #[.agg #[.bool (ngB x), .slice A1 n1 c1, .int .i64 0], .int .i64 0]) (by simp [results, Try.results38, go_sem, e0, e1, e2]) rfl ⟨A1, n1, c1, rfl, St.got EF (by simp), EF.out.bel⟩

set_option maxHeartbeats 4000000 in
theorem power5_pos_s (A : Option Addr) (n c s k : Nat) (i : Int) (w : World) (h : Num w w.heap.size A n c i.natAbs) (hn : n ≤ 100) (hs : s ≤ 10000) (hk : k ≤ 255) (hk0 : 0 < k) (h0 : 0 ≤ i) :
    Calls Try.prog 38 #[.agg #[.bool (ngB i), .slice A n c, .int .i64 (s : Int)], .int .i64 (k : Int)] w (RetDecE w (i ^ k) (s * k)) := by
  have H := Lib.hid h
  have hb : ngB i = false := decide_eq_false (by omega)
  have HX0 := sgn_pow_pos (k := k) h0
  have HP := Lib.hid (abs_pow i k)
  obtain ⟨x, hx⟩ : ∃ x, i ^ k = x := ⟨_, rfl⟩
  rw [hx] at HX0 HP
  rw [hx]
  have HX := Lib.hid HX0
  have hp0 : (0 : Int) ≤ (s : Int) * (k : Int) := Int.mul_nonneg (by omega) (by omega)
  have hpn : s * k ≤ 10000 * 255 := Nat.mul_le_mul hs hk
  obtain ⟨r, hr⟩ : ∃ r, s * k = r := ⟨_, rfl⟩
  have hpr : (s : Int) * (k : Int) = (r : Int) := by rw [← hr, Int.natCast_mul]
  rw [hr] at hpn ⊢
  have hpl : (s : Int) * (k : Int) ≤ 10000 * 255 := by rw [hpr]; omega
  have hrb : r ≤ 2550000 := by omega
  have hkz : ((k : Int) == 0) = false := by simp; omega
  have hq1 : (0 : Int) ≤ 9223372036854775807 / (k : Int) := Int.ediv_nonneg (by omega) (by omega)
  have hq2 : (36028797018963967 : Int) ≤ 9223372036854775807 / (k : Int) := by
    have : (36028797018963967 : Int) * (k : Int) ≤ 9223372036854775807 := by omega
    exact Int.le_ediv_of_mul_le (by omega) this
  have hq3 : 9223372036854775807 / (k : Int) ≤ 9223372036854775807 := Int.ediv_le_self _ (by omega)
  obtain ⟨q, hq⟩ : ∃ q, 9223372036854775807 / (k : Int) = q := ⟨_, rfl⟩
  rw [hq] at hq1 hq2 hq3
  have hqq : IntKind.i64.wrap (Int.tdiv 9223372036854775807 (k : Int)) = q := by
    rw [Int.tdiv_eq_ediv_of_nonneg (by omega), hq]
    exact IntWalk.i64_in _ ⟨by omega, by omega⟩
  have hsq : decide ((s : Int) ≤ q) = true := decide_eq_true (by omega)
  have HB := Lib.hid hb
  clear hb h h0 HX0 hx hr hpn hq hq1 hq2 hq3
  have hsm := max_zero (P := Try.prog) (s := s)
  go_enter Try.func38, Try.ntmps38
  go_wp2_with fail
  generalize hW : World.alloc (World.alloc w _) _ = W0
  have E0 : St w W0 [(A, n, c, (i).natAbs)] [((w.heap.size + 1), .bool false, .slice none 0 0, .int .i64 0), (w.heap.size, (.bool (ngB i)), (.slice A n c), (.int .i64 (s : Int)))] := by rw [← hW]; exact ((start_one H.out).lay rfl).lay (by simp)
  have E := Lib.hid E0
  clear hW E0
  obtain ⟨p0, p1, p2, pf0, pf1, pf2, plt⟩ := St.at_ (x0 := (.bool (ngB i))) (x1 := (.slice A n c)) (x2 := (.int .i64 (s : Int))) (g := w.heap.size) E (by simp)
  go_wp2_with fail
  refine (power_is (a := i.natAbs) (k := k) (St.got E (by simp)) (by omega) (by omega) rfl HP.out).mono ?_; rintro e w2 ⟨A1, n1, c1, rfl, h1, hb1⟩; replace E := Lib.hid (St.push E.out hb1 h1); clear h1 hb1
  clear p0 p1 p2 pf0 pf1 pf2 plt
  obtain ⟨p0, p1, p2, pf0, pf1, pf2, plt⟩ := St.at_ (x0 := (.bool (ngB i))) (x1 := (.slice A n c)) (x2 := (.int .i64 (s : Int))) (g := w.heap.size) E (by simp)
  go_wp2_with fail
  go_quiet ((fail))
  clear p0 p1 p2 pf0 pf1 pf2 plt
  replace E := Lib.hid (St.step E.out (Below.of_quiet (n := nq)))
  obtain ⟨p0, p1, p2, pf0, pf1, pf2, plt⟩ := St.at_ (x0 := (.bool (ngB i))) (x1 := (.slice A n c)) (x2 := (.int .i64 (s : Int))) (g := w.heap.size) E (by simp)
  have hb := HB.out
  go_wp2_with fail
  clear hb
  clear hpr hp0 hpl
  refine (decimal_is (b := false) (A := A1) (n := n1) (c := c1) (s := r) (St.got E (by simp)) (by omega) HX.out).mono ?_; rintro e w3 ⟨rfl, hb1⟩; replace E := Lib.hid (St.step E.out hb1); clear hb1
  clear p0 p1 p2 pf0 pf1 pf2 plt
  obtain ⟨r0, r1, r2, rf0, rf1, rf2, rlt⟩ := St.at_ (x0 := .bool false) (x1 := .slice none 0 0) (x2 := .int .i64 0) (g := (w.heap.size + 1)) E (by simp)
  go_wp2_with fail
  have EF := Lib.hid (St.store E.out (g := w.heap.size + 1) (x0 := .bool false) (x1 := .slice none 0 0) (x2 := .int .i64 0) (by simp) (noLimb_bool _) (noLimb_slice _ _ _) (noLimb_int _) [] (fun q hq => by cases hq) (.bool (ngB x)) (.slice A1 n1 c1) (.int .i64 (r : Int)))
  obtain ⟨e0, e1, e2, _, _, _, _⟩ := St.at_ (x0 := .bool (ngB x)) (x1 := .slice A1 n1 c1) (x2 := .int .i64 (r : Int)) (g := w.heap.size + 1) EF (by simp)
  exact bodyPost_ret (v := .tuple #[.agg #[.bool (ngB x), .slice A1 n1 c1, .int .i64 (r : Int)], .int .i64 0]) (by simp [results, Try.results38, go_sem, e0, e1, e2]) rfl ⟨A1, n1, c1, rfl, St.got EF (by simp), EF.out.bel⟩

set_option maxHeartbeats 4000000 in
theorem power5_odd_s (A : Option Addr) (n c s k : Nat) (i : Int) (w : World) (h : Num w w.heap.size A n c i.natAbs) (hn : n ≤ 100) (hs : s ≤ 10000) (hk : k ≤ 255) (hk0 : 0 < k) (h0 : i < 0) (ho : k % 2 = 1) :
    Calls Try.prog 38 #[.agg #[.bool (ngB i), .slice A n c, .int .i64 (s : Int)], .int .i64 (k : Int)] w (RetDecE w (i ^ k) (s * k)) := by
  have H := Lib.hid h
  have hb : ngB i = true := decide_eq_true h0
  have HX0 := sgn_pow_odd h0 ho
  have HP := Lib.hid (abs_pow i k)
  obtain ⟨x, hx⟩ : ∃ x, i ^ k = x := ⟨_, rfl⟩
  rw [hx] at HX0 HP
  rw [hx]
  have HX := Lib.hid HX0
  have hp0 : (0 : Int) ≤ (s : Int) * (k : Int) := Int.mul_nonneg (by omega) (by omega)
  have hpn : s * k ≤ 10000 * 255 := Nat.mul_le_mul hs hk
  obtain ⟨r, hr⟩ : ∃ r, s * k = r := ⟨_, rfl⟩
  have hpr : (s : Int) * (k : Int) = (r : Int) := by rw [← hr, Int.natCast_mul]
  rw [hr] at hpn ⊢
  have hpl : (s : Int) * (k : Int) ≤ 10000 * 255 := by rw [hpr]; omega
  have hrb : r ≤ 2550000 := by omega
  have ho2 : (((k : Int) % 2) == 1) = true := by simp; omega
  have hkz : ((k : Int) == 0) = false := by simp; omega
  have hq1 : (0 : Int) ≤ 9223372036854775807 / (k : Int) := Int.ediv_nonneg (by omega) (by omega)
  have hq2 : (36028797018963967 : Int) ≤ 9223372036854775807 / (k : Int) := by
    have : (36028797018963967 : Int) * (k : Int) ≤ 9223372036854775807 := by omega
    exact Int.le_ediv_of_mul_le (by omega) this
  have hq3 : 9223372036854775807 / (k : Int) ≤ 9223372036854775807 := Int.ediv_le_self _ (by omega)
  obtain ⟨q, hq⟩ : ∃ q, 9223372036854775807 / (k : Int) = q := ⟨_, rfl⟩
  rw [hq] at hq1 hq2 hq3
  have hqq : IntKind.i64.wrap (Int.tdiv 9223372036854775807 (k : Int)) = q := by
    rw [Int.tdiv_eq_ediv_of_nonneg (by omega), hq]
    exact IntWalk.i64_in _ ⟨by omega, by omega⟩
  have hsq : decide ((s : Int) ≤ q) = true := decide_eq_true (by omega)
  have HB := Lib.hid hb
  clear hb h h0 HX0 hx hr hpn ho hq hq1 hq2 hq3
  have hsm := max_zero (P := Try.prog) (s := s)
  go_enter Try.func38, Try.ntmps38
  go_wp2_with fail
  generalize hW : World.alloc (World.alloc w _) _ = W0
  have E0 : St w W0 [(A, n, c, (i).natAbs)] [((w.heap.size + 1), .bool false, .slice none 0 0, .int .i64 0), (w.heap.size, (.bool (ngB i)), (.slice A n c), (.int .i64 (s : Int)))] := by rw [← hW]; exact ((start_one H.out).lay rfl).lay (by simp)
  have E := Lib.hid E0
  clear hW E0
  obtain ⟨p0, p1, p2, pf0, pf1, pf2, plt⟩ := St.at_ (x0 := (.bool (ngB i))) (x1 := (.slice A n c)) (x2 := (.int .i64 (s : Int))) (g := w.heap.size) E (by simp)
  go_wp2_with fail
  refine (power_is (a := i.natAbs) (k := k) (St.got E (by simp)) (by omega) (by omega) rfl HP.out).mono ?_; rintro e w2 ⟨A1, n1, c1, rfl, h1, hb1⟩; replace E := Lib.hid (St.push E.out hb1 h1); clear h1 hb1
  clear p0 p1 p2 pf0 pf1 pf2 plt
  obtain ⟨p0, p1, p2, pf0, pf1, pf2, plt⟩ := St.at_ (x0 := (.bool (ngB i))) (x1 := (.slice A n c)) (x2 := (.int .i64 (s : Int))) (g := w.heap.size) E (by simp)
  go_wp2_with fail
  go_quiet ((fail))
  clear p0 p1 p2 pf0 pf1 pf2 plt
  replace E := Lib.hid (St.step E.out (Below.of_quiet (n := nq)))
  obtain ⟨p0, p1, p2, pf0, pf1, pf2, plt⟩ := St.at_ (x0 := (.bool (ngB i))) (x1 := (.slice A n c)) (x2 := (.int .i64 (s : Int))) (g := w.heap.size) E (by simp)
  have hb := HB.out
  go_wp2_with fail
  clear hb
  clear hpr hp0 hpl
  refine (decimal_is (b := true) (A := A1) (n := n1) (c := c1) (s := r) (St.got E (by simp)) (by omega) HX.out).mono ?_; rintro e w3 ⟨rfl, hb1⟩; replace E := Lib.hid (St.step E.out hb1); clear hb1
  clear p0 p1 p2 pf0 pf1 pf2 plt
  obtain ⟨r0, r1, r2, rf0, rf1, rf2, rlt⟩ := St.at_ (x0 := .bool false) (x1 := .slice none 0 0) (x2 := .int .i64 0) (g := (w.heap.size + 1)) E (by simp)
  go_wp2_with fail
  have EF := Lib.hid (St.store E.out (g := w.heap.size + 1) (x0 := .bool false) (x1 := .slice none 0 0) (x2 := .int .i64 0) (by simp) (noLimb_bool _) (noLimb_slice _ _ _) (noLimb_int _) [] (fun q hq => by cases hq) (.bool (ngB x)) (.slice A1 n1 c1) (.int .i64 (r : Int)))
  obtain ⟨e0, e1, e2, _, _, _, _⟩ := St.at_ (x0 := .bool (ngB x)) (x1 := .slice A1 n1 c1) (x2 := .int .i64 (r : Int)) (g := w.heap.size + 1) EF (by simp)
  exact bodyPost_ret (v := .tuple #[.agg #[.bool (ngB x), .slice A1 n1 c1, .int .i64 (r : Int)], .int .i64 0]) (by simp [results, Try.results38, go_sem, e0, e1, e2]) rfl ⟨A1, n1, c1, rfl, St.got EF (by simp), EF.out.bel⟩

set_option maxHeartbeats 4000000 in
theorem power5_even_z (A : Option Addr) (n c s k : Nat) (i : Int) (w : World) (h : Num w w.heap.size A n c i.natAbs) (hn : n ≤ 100) (hs : s ≤ 10000) (hk : k ≤ 255) (hk0 : k = 0) (h0 : i < 0) (ho : k % 2 = 0) :
    Calls Try.prog 38 #[.agg #[.bool (ngB i), .slice A n c, .int .i64 (s : Int)], .int .i64 (k : Int)] w (RetDecE w (i ^ k) (s * k)) := by
  have H := Lib.hid h
  have hb : ngB i = true := decide_eq_true h0
  have HX0 := sgn_pow_even h0 ho
  have HP := Lib.hid (abs_pow i k)
  obtain ⟨x, hx⟩ : ∃ x, i ^ k = x := ⟨_, rfl⟩
  rw [hx] at HX0 HP
  rw [hx]
  have HX := Lib.hid HX0
  have hp0 : (0 : Int) ≤ (s : Int) * (k : Int) := Int.mul_nonneg (by omega) (by omega)
  have hpn : s * k ≤ 10000 * 255 := Nat.mul_le_mul hs hk
  obtain ⟨r, hr⟩ : ∃ r, s * k = r := ⟨_, rfl⟩
  have hpr : (s : Int) * (k : Int) = (r : Int) := by rw [← hr, Int.natCast_mul]
  rw [hr] at hpn ⊢
  have hpl : (s : Int) * (k : Int) ≤ 10000 * 255 := by rw [hpr]; omega
  have hrb : r ≤ 2550000 := by omega
  have ho2 : (((k : Int) % 2) == 1) = false := by simp; omega
  subst hk0
  have hr0 : r = 0 := by rw [← hr]; simp
  subst hr0
  have HB := Lib.hid hb
  clear hb h h0 HX0 hx hr hpn ho
  have hsm := max_zero (P := Try.prog) (s := s)
  go_enter Try.func38, Try.ntmps38
  go_wp2_with fail
  generalize hW : World.alloc (World.alloc w _) _ = W0
  have E0 : St w W0 [(A, n, c, (i).natAbs)] [((w.heap.size + 1), .bool false, .slice none 0 0, .int .i64 0), (w.heap.size, (.bool (ngB i)), (.slice A n c), (.int .i64 (s : Int)))] := by rw [← hW]; exact ((start_one H.out).lay rfl).lay (by simp)
  have E := Lib.hid E0
  clear hW E0
  obtain ⟨p0, p1, p2, pf0, pf1, pf2, plt⟩ := St.at_ (x0 := (.bool (ngB i))) (x1 := (.slice A n c)) (x2 := (.int .i64 (s : Int))) (g := w.heap.size) E (by simp)
  go_wp2_with fail
  refine (power_is (a := i.natAbs) (k := 0) (St.got E (by simp)) (by omega) (by omega) rfl HP.out).mono ?_; rintro e w2 ⟨A1, n1, c1, rfl, h1, hb1⟩; replace E := Lib.hid (St.push E.out hb1 h1); clear h1 hb1
  clear p0 p1 p2 pf0 pf1 pf2 plt
  obtain ⟨p0, p1, p2, pf0, pf1, pf2, plt⟩ := St.at_ (x0 := (.bool (ngB i))) (x1 := (.slice A n c)) (x2 := (.int .i64 (s : Int))) (g := w.heap.size) E (by simp)
  go_wp2_with fail
  go_quiet ((fail))
  clear p0 p1 p2 pf0 pf1 pf2 plt
  replace E := Lib.hid (St.step E.out (Below.of_quiet (n := nq)))
  obtain ⟨p0, p1, p2, pf0, pf1, pf2, plt⟩ := St.at_ (x0 := (.bool (ngB i))) (x1 := (.slice A n c)) (x2 := (.int .i64 (s : Int))) (g := w.heap.size) E (by simp)
  have hb := HB.out
  go_wp2_with fail
  clear hb
  clear hpr hp0 hpl
  refine (decimal_is (b := false) (A := A1) (n := n1) (c := c1) (s := 0) (St.got E (by simp)) (by omega) HX.out).mono ?_; rintro e w3 ⟨rfl, hb1⟩; replace E := Lib.hid (St.step E.out hb1); clear hb1
  clear p0 p1 p2 pf0 pf1 pf2 plt
  obtain ⟨r0, r1, r2, rf0, rf1, rf2, rlt⟩ := St.at_ (x0 := .bool false) (x1 := .slice none 0 0) (x2 := .int .i64 0) (g := (w.heap.size + 1)) E (by simp)
  go_wp2_with fail
  have EF := Lib.hid (St.store E.out (g := w.heap.size + 1) (x0 := .bool false) (x1 := .slice none 0 0) (x2 := .int .i64 0) (by simp) (noLimb_bool _) (noLimb_slice _ _ _) (noLimb_int _) [] (fun q hq => by cases hq) (.bool (ngB x)) (.slice A1 n1 c1) (.int .i64 0))
  obtain ⟨e0, e1, e2, _, _, _, _⟩ := St.at_ (x0 := .bool (ngB x)) (x1 := .slice A1 n1 c1) (x2 := .int .i64 0) (g := w.heap.size + 1) EF (by simp)
  exact bodyPost_ret (v := .tuple #[.agg #[.bool (ngB x), .slice A1 n1 c1, .int .i64 0], .int .i64 0]) (by simp [results, Try.results38, go_sem, e0, e1, e2]) rfl ⟨A1, n1, c1, rfl, St.got EF (by simp), EF.out.bel⟩

set_option maxHeartbeats 4000000 in
theorem power5_even_s (A : Option Addr) (n c s k : Nat) (i : Int) (w : World) (h : Num w w.heap.size A n c i.natAbs) (hn : n ≤ 100) (hs : s ≤ 10000) (hk : k ≤ 255) (hk0 : 0 < k) (h0 : i < 0) (ho : k % 2 = 0) :
    Calls Try.prog 38 #[.agg #[.bool (ngB i), .slice A n c, .int .i64 (s : Int)], .int .i64 (k : Int)] w (RetDecE w (i ^ k) (s * k)) := by
  have H := Lib.hid h
  have hb : ngB i = true := decide_eq_true h0
  have HX0 := sgn_pow_even h0 ho
  have HP := Lib.hid (abs_pow i k)
  obtain ⟨x, hx⟩ : ∃ x, i ^ k = x := ⟨_, rfl⟩
  rw [hx] at HX0 HP
  rw [hx]
  have HX := Lib.hid HX0
  have hp0 : (0 : Int) ≤ (s : Int) * (k : Int) := Int.mul_nonneg (by omega) (by omega)
  have hpn : s * k ≤ 10000 * 255 := Nat.mul_le_mul hs hk
  obtain ⟨r, hr⟩ : ∃ r, s * k = r := ⟨_, rfl⟩
  have hpr : (s : Int) * (k : Int) = (r : Int) := by rw [← hr, Int.natCast_mul]
  rw [hr] at hpn ⊢
  have hpl : (s : Int) * (k : Int) ≤ 10000 * 255 := by rw [hpr]; omega
  have hrb : r ≤ 2550000 := by omega
  have ho2 : (((k : Int) % 2) == 1) = false := by simp; omega
  have hkz : ((k : Int) == 0) = false := by simp; omega
  have hq1 : (0 : Int) ≤ 9223372036854775807 / (k : Int) := Int.ediv_nonneg (by omega) (by omega)
  have hq2 : (36028797018963967 : Int) ≤ 9223372036854775807 / (k : Int) := by
    have : (36028797018963967 : Int) * (k : Int) ≤ 9223372036854775807 := by omega
    exact Int.le_ediv_of_mul_le (by omega) this
  have hq3 : 9223372036854775807 / (k : Int) ≤ 9223372036854775807 := Int.ediv_le_self _ (by omega)
  obtain ⟨q, hq⟩ : ∃ q, 9223372036854775807 / (k : Int) = q := ⟨_, rfl⟩
  rw [hq] at hq1 hq2 hq3
  have hqq : IntKind.i64.wrap (Int.tdiv 9223372036854775807 (k : Int)) = q := by
    rw [Int.tdiv_eq_ediv_of_nonneg (by omega), hq]
    exact IntWalk.i64_in _ ⟨by omega, by omega⟩
  have hsq : decide ((s : Int) ≤ q) = true := decide_eq_true (by omega)
  have HB := Lib.hid hb
  clear hb h h0 HX0 hx hr hpn ho hq hq1 hq2 hq3
  have hsm := max_zero (P := Try.prog) (s := s)
  go_enter Try.func38, Try.ntmps38
  go_wp2_with fail
  generalize hW : World.alloc (World.alloc w _) _ = W0
  have E0 : St w W0 [(A, n, c, (i).natAbs)] [((w.heap.size + 1), .bool false, .slice none 0 0, .int .i64 0), (w.heap.size, (.bool (ngB i)), (.slice A n c), (.int .i64 (s : Int)))] := by rw [← hW]; exact ((start_one H.out).lay rfl).lay (by simp)
  have E := Lib.hid E0
  clear hW E0
  obtain ⟨p0, p1, p2, pf0, pf1, pf2, plt⟩ := St.at_ (x0 := (.bool (ngB i))) (x1 := (.slice A n c)) (x2 := (.int .i64 (s : Int))) (g := w.heap.size) E (by simp)
  go_wp2_with fail
  refine (power_is (a := i.natAbs) (k := k) (St.got E (by simp)) (by omega) (by omega) rfl HP.out).mono ?_; rintro e w2 ⟨A1, n1, c1, rfl, h1, hb1⟩; replace E := Lib.hid (St.push E.out hb1 h1); clear h1 hb1
  clear p0 p1 p2 pf0 pf1 pf2 plt
  obtain ⟨p0, p1, p2, pf0, pf1, pf2, plt⟩ := St.at_ (x0 := (.bool (ngB i))) (x1 := (.slice A n c)) (x2 := (.int .i64 (s : Int))) (g := w.heap.size) E (by simp)
  go_wp2_with fail
  go_quiet ((fail))
  clear p0 p1 p2 pf0 pf1 pf2 plt
  replace E := Lib.hid (St.step E.out (Below.of_quiet (n := nq)))
  obtain ⟨p0, p1, p2, pf0, pf1, pf2, plt⟩ := St.at_ (x0 := (.bool (ngB i))) (x1 := (.slice A n c)) (x2 := (.int .i64 (s : Int))) (g := w.heap.size) E (by simp)
  have hb := HB.out
  go_wp2_with fail
  clear hb
  clear hpr hp0 hpl
  refine (decimal_is (b := false) (A := A1) (n := n1) (c := c1) (s := r) (St.got E (by simp)) (by omega) HX.out).mono ?_; rintro e w3 ⟨rfl, hb1⟩; replace E := Lib.hid (St.step E.out hb1); clear hb1
  clear p0 p1 p2 pf0 pf1 pf2 plt
  obtain ⟨r0, r1, r2, rf0, rf1, rf2, rlt⟩ := St.at_ (x0 := .bool false) (x1 := .slice none 0 0) (x2 := .int .i64 0) (g := (w.heap.size + 1)) E (by simp)
  go_wp2_with fail
  have EF := Lib.hid (St.store E.out (g := w.heap.size + 1) (x0 := .bool false) (x1 := .slice none 0 0) (x2 := .int .i64 0) (by simp) (noLimb_bool _) (noLimb_slice _ _ _) (noLimb_int _) [] (fun q hq => by cases hq) (.bool (ngB x)) (.slice A1 n1 c1) (.int .i64 (r : Int)))
  obtain ⟨e0, e1, e2, _, _, _, _⟩ := St.at_ (x0 := .bool (ngB x)) (x1 := .slice A1 n1 c1) (x2 := .int .i64 (r : Int)) (g := w.heap.size + 1) EF (by simp)
  exact bodyPost_ret (v := .tuple #[.agg #[.bool (ngB x), .slice A1 n1 c1, .int .i64 (r : Int)], .int .i64 0]) (by simp [results, Try.results38, go_sem, e0, e1, e2]) rfl ⟨A1, n1, c1, rfl, St.got EF (by simp), EF.out.bel⟩

theorem power5_any (A : Option Addr) (n c s k : Nat) (i : Int) (w : World) (h : Num w w.heap.size A n c i.natAbs) (hn : n ≤ 100) (hs : s ≤ 10000) (hk : k ≤ 255) :
    Calls Try.prog 38 #[.agg #[.bool (ngB i), .slice A n c, .int .i64 (s : Int)], .int .i64 (k : Int)] w (RetDecE w (i ^ k) (s * k)) := by
  rcases Int.lt_or_le i 0 with h0 | h0
  · rcases Nat.mod_two_eq_zero_or_one k with ho | ho
    · rcases Nat.eq_zero_or_pos k with hk0 | hk0; exact power5_even_z A n c s k i w h hn hs hk hk0 h0 ho; exact power5_even_s A n c s k i w h hn hs hk hk0 h0 ho
    · exact power5_odd_s A n c s k i w h hn hs hk (by omega) h0 ho
  · rcases Nat.eq_zero_or_pos k with hk0 | hk0; exact power5_pos_z A n c s k i w h hn hs hk hk0 h0; exact power5_pos_s A n c s k i w h hn hs hk hk0 h0

set_option maxHeartbeats 2000000 in
theorem refPower5_neg (A : Option Addr) (n c s : Nat) (i v : Int) (w : World) (hv : v < 0) :
    Calls Try.prog 39 #[.agg #[.bool (ngB i), .slice A n c, .int .i64 (s : Int)], .int .i64 v] w (RetVal w (.tuple #[.agg #[.bool false, .slice none 0 0, .int .i64 0], .int .i64 1])) := by
  go_enter Try.func39, Try.ntmps39
  go_wp2
  exact bodyPost_ret (v := .tuple #[.agg #[.bool false, .slice none 0 0, .int .i64 0], .int .i64 1]) (by simp [results, Try.results39, go_sem]) rfl ⟨rfl, ((Below.refl _ _).alloc (Nat.le_refl _) _).alloc (by simp) _⟩

set_option maxHeartbeats 4000000 in
theorem refPower5_pos (A : Option Addr) (n c s k : Nat) (i : Int) (w : World) (h : Num w w.heap.size A n c i.natAbs) (hn : n ≤ 100) (hs : s ≤ 10000) (hk : k ≤ 255) (h0 : 0 ≤ i) :
    Calls Try.prog 39 #[.agg #[.bool (ngB i), .slice A n c, .int .i64 (s : Int)], .int .i64 (k : Int)] w (RetDecE w (i ^ k) (s * k)) := by
  have H := Lib.hid h
  have hb : ngB i = false := decide_eq_false (by omega)
  have HX0 := sgn_pow_pos (k := k) h0
  have HP := Lib.hid (abs_pow i k)
  obtain ⟨x, hx⟩ : ∃ x, i ^ k = x := ⟨_, rfl⟩
  rw [hx] at HX0 HP
  rw [hx]
  have HX := Lib.hid HX0
  have hp0 : (0 : Int) ≤ (s : Int) * (k : Int) := Int.mul_nonneg (by omega) (by omega)
  have hpn : s * k ≤ 10000 * 255 := Nat.mul_le_mul hs hk
  obtain ⟨r, hr⟩ : ∃ r, s * k = r := ⟨_, rfl⟩
  have hpr : (s : Int) * (k : Int) = (r : Int) := by rw [← hr, Int.natCast_mul]
  rw [hr] at hpn ⊢
  have hpl : (s : Int) * (k : Int) ≤ 10000 * 255 := by rw [hpr]; omega
  have hrb : r ≤ 2550000 := by omega
  have HB := Lib.hid hb
  clear hb h h0 HX0 hx hr hpn
  have hsm := max_zero (P := Try.prog) (s := s)
  go_enter Try.func39, Try.ntmps39
  go_wp2_with fail
  generalize hW : World.alloc (World.alloc w _) _ = W0
  have E0 : St w W0 [(A, n, c, (i).natAbs)] [((w.heap.size + 1), .bool false, .slice none 0 0, .int .i64 0), (w.heap.size, (.bool (ngB i)), (.slice A n c), (.int .i64 (s : Int)))] := by rw [← hW]; exact ((start_one H.out).lay rfl).lay (by simp)
  have E := Lib.hid E0
  clear hW E0
  obtain ⟨p0, p1, p2, pf0, pf1, pf2, plt⟩ := St.at_ (x0 := (.bool (ngB i))) (x1 := (.slice A n c)) (x2 := (.int .i64 (s : Int))) (g := w.heap.size) E (by simp)
  go_wp2_with fail
  refine (refPower_is (a := i.natAbs) (k := k) (St.got E (by simp)) (by omega) (by omega) rfl HP.out).mono ?_; rintro e w2 ⟨A1, n1, c1, rfl, h1, hb1⟩; replace E := Lib.hid (St.push E.out hb1 h1); clear h1 hb1
  clear p0 p1 p2 pf0 pf1 pf2 plt
  obtain ⟨p0, p1, p2, pf0, pf1, pf2, plt⟩ := St.at_ (x0 := (.bool (ngB i))) (x1 := (.slice A n c)) (x2 := (.int .i64 (s : Int))) (g := w.heap.size) E (by simp)
  have hb := HB.out
  go_wp2_with fail
  clear hb
  clear hpr hp0 hpl
  refine (refDone_is (b := false) (A := A1) (n := n1) (c := c1) (s := r) (St.got E (by simp)) (by omega) HX.out).mono ?_; rintro e w3 ⟨rfl, hb1⟩; replace E := Lib.hid (St.step E.out hb1); clear hb1
  clear p0 p1 p2 pf0 pf1 pf2 plt
  obtain ⟨r0, r1, r2, rf0, rf1, rf2, rlt⟩ := St.at_ (x0 := .bool false) (x1 := .slice none 0 0) (x2 := .int .i64 0) (g := (w.heap.size + 1)) E (by simp)
  go_wp2_with fail
  have EF := Lib.hid (St.store E.out (g := w.heap.size + 1) (x0 := .bool false) (x1 := .slice none 0 0) (x2 := .int .i64 0) (by simp) (noLimb_bool _) (noLimb_slice _ _ _) (noLimb_int _) [] (fun q hq => by cases hq) (.bool (ngB x)) (.slice A1 n1 c1) (.int .i64 (r : Int)))
  obtain ⟨e0, e1, e2, _, _, _, _⟩ := St.at_ (x0 := .bool (ngB x)) (x1 := .slice A1 n1 c1) (x2 := .int .i64 (r : Int)) (g := w.heap.size + 1) EF (by simp)
  exact bodyPost_ret (v := .tuple #[.agg #[.bool (ngB x), .slice A1 n1 c1, .int .i64 (r : Int)], .int .i64 0]) (by simp [results, Try.results39, go_sem, e0, e1, e2]) rfl ⟨A1, n1, c1, rfl, St.got EF (by simp), EF.out.bel⟩

set_option maxHeartbeats 4000000 in
theorem refPower5_odd (A : Option Addr) (n c s k : Nat) (i : Int) (w : World) (h : Num w w.heap.size A n c i.natAbs) (hn : n ≤ 100) (hs : s ≤ 10000) (hk : k ≤ 255) (h0 : i < 0) (ho : k % 2 = 1) :
    Calls Try.prog 39 #[.agg #[.bool (ngB i), .slice A n c, .int .i64 (s : Int)], .int .i64 (k : Int)] w (RetDecE w (i ^ k) (s * k)) := by
  have H := Lib.hid h
  have hb : ngB i = true := decide_eq_true h0
  have HX0 := sgn_pow_odd h0 ho
  have HP := Lib.hid (abs_pow i k)
  obtain ⟨x, hx⟩ : ∃ x, i ^ k = x := ⟨_, rfl⟩
  rw [hx] at HX0 HP
  rw [hx]
  have HX := Lib.hid HX0
  have hp0 : (0 : Int) ≤ (s : Int) * (k : Int) := Int.mul_nonneg (by omega) (by omega)
  have hpn : s * k ≤ 10000 * 255 := Nat.mul_le_mul hs hk
  obtain ⟨r, hr⟩ : ∃ r, s * k = r := ⟨_, rfl⟩
  have hpr : (s : Int) * (k : Int) = (r : Int) := by rw [← hr, Int.natCast_mul]
  rw [hr] at hpn ⊢
  have hpl : (s : Int) * (k : Int) ≤ 10000 * 255 := by rw [hpr]; omega
  have hrb : r ≤ 2550000 := by omega
  have ho2 : (((k : Int) % 2) == 1) = true := by simp; omega
  have HB := Lib.hid hb
  clear hb h h0 HX0 hx hr hpn ho
  have hsm := max_zero (P := Try.prog) (s := s)
  go_enter Try.func39, Try.ntmps39
  go_wp2_with fail
  generalize hW : World.alloc (World.alloc w _) _ = W0
  have E0 : St w W0 [(A, n, c, (i).natAbs)] [((w.heap.size + 1), .bool false, .slice none 0 0, .int .i64 0), (w.heap.size, (.bool (ngB i)), (.slice A n c), (.int .i64 (s : Int)))] := by rw [← hW]; exact ((start_one H.out).lay rfl).lay (by simp)
  have E := Lib.hid E0
  clear hW E0
  obtain ⟨p0, p1, p2, pf0, pf1, pf2, plt⟩ := St.at_ (x0 := (.bool (ngB i))) (x1 := (.slice A n c)) (x2 := (.int .i64 (s : Int))) (g := w.heap.size) E (by simp)
  go_wp2_with fail
  refine (refPower_is (a := i.natAbs) (k := k) (St.got E (by simp)) (by omega) (by omega) rfl HP.out).mono ?_; rintro e w2 ⟨A1, n1, c1, rfl, h1, hb1⟩; replace E := Lib.hid (St.push E.out hb1 h1); clear h1 hb1
  clear p0 p1 p2 pf0 pf1 pf2 plt
  obtain ⟨p0, p1, p2, pf0, pf1, pf2, plt⟩ := St.at_ (x0 := (.bool (ngB i))) (x1 := (.slice A n c)) (x2 := (.int .i64 (s : Int))) (g := w.heap.size) E (by simp)
  have hb := HB.out
  go_wp2_with fail
  clear hb
  clear hpr hp0 hpl
  refine (refDone_is (b := true) (A := A1) (n := n1) (c := c1) (s := r) (St.got E (by simp)) (by omega) HX.out).mono ?_; rintro e w3 ⟨rfl, hb1⟩; replace E := Lib.hid (St.step E.out hb1); clear hb1
  clear p0 p1 p2 pf0 pf1 pf2 plt
  obtain ⟨r0, r1, r2, rf0, rf1, rf2, rlt⟩ := St.at_ (x0 := .bool false) (x1 := .slice none 0 0) (x2 := .int .i64 0) (g := (w.heap.size + 1)) E (by simp)
  go_wp2_with fail
  have EF := Lib.hid (St.store E.out (g := w.heap.size + 1) (x0 := .bool false) (x1 := .slice none 0 0) (x2 := .int .i64 0) (by simp) (noLimb_bool _) (noLimb_slice _ _ _) (noLimb_int _) [] (fun q hq => by cases hq) (.bool (ngB x)) (.slice A1 n1 c1) (.int .i64 (r : Int)))
  obtain ⟨e0, e1, e2, _, _, _, _⟩ := St.at_ (x0 := .bool (ngB x)) (x1 := .slice A1 n1 c1) (x2 := .int .i64 (r : Int)) (g := w.heap.size + 1) EF (by simp)
  exact bodyPost_ret (v := .tuple #[.agg #[.bool (ngB x), .slice A1 n1 c1, .int .i64 (r : Int)], .int .i64 0]) (by simp [results, Try.results39, go_sem, e0, e1, e2]) rfl ⟨A1, n1, c1, rfl, St.got EF (by simp), EF.out.bel⟩

set_option maxHeartbeats 4000000 in
theorem refPower5_even (A : Option Addr) (n c s k : Nat) (i : Int) (w : World) (h : Num w w.heap.size A n c i.natAbs) (hn : n ≤ 100) (hs : s ≤ 10000) (hk : k ≤ 255) (h0 : i < 0) (ho : k % 2 = 0) :
    Calls Try.prog 39 #[.agg #[.bool (ngB i), .slice A n c, .int .i64 (s : Int)], .int .i64 (k : Int)] w (RetDecE w (i ^ k) (s * k)) := by
  have H := Lib.hid h
  have hb : ngB i = true := decide_eq_true h0
  have HX0 := sgn_pow_even h0 ho
  have HP := Lib.hid (abs_pow i k)
  obtain ⟨x, hx⟩ : ∃ x, i ^ k = x := ⟨_, rfl⟩
  rw [hx] at HX0 HP
  rw [hx]
  have HX := Lib.hid HX0
  have hp0 : (0 : Int) ≤ (s : Int) * (k : Int) := Int.mul_nonneg (by omega) (by omega)
  have hpn : s * k ≤ 10000 * 255 := Nat.mul_le_mul hs hk
  obtain ⟨r, hr⟩ : ∃ r, s * k = r := ⟨_, rfl⟩
  have hpr : (s : Int) * (k : Int) = (r : Int) := by rw [← hr, Int.natCast_mul]
  rw [hr] at hpn ⊢
  have hpl : (s : Int) * (k : Int) ≤ 10000 * 255 := by rw [hpr]; omega
  have hrb : r ≤ 2550000 := by omega
  have ho2 : (((k : Int) % 2) == 1) = false := by simp; omega
  have HB := Lib.hid hb
  clear hb h h0 HX0 hx hr hpn ho
  have hsm := max_zero (P := Try.prog) (s := s)
  go_enter Try.func39, Try.ntmps39
  go_wp2_with fail
  generalize hW : World.alloc (World.alloc w _) _ = W0
  have E0 : St w W0 [(A, n, c, (i).natAbs)] [((w.heap.size + 1), .bool false, .slice none 0 0, .int .i64 0), (w.heap.size, (.bool (ngB i)), (.slice A n c), (.int .i64 (s : Int)))] := by rw [← hW]; exact ((start_one H.out).lay rfl).lay (by simp)
  have E := Lib.hid E0
  clear hW E0
  obtain ⟨p0, p1, p2, pf0, pf1, pf2, plt⟩ := St.at_ (x0 := (.bool (ngB i))) (x1 := (.slice A n c)) (x2 := (.int .i64 (s : Int))) (g := w.heap.size) E (by simp)
  go_wp2_with fail
  refine (refPower_is (a := i.natAbs) (k := k) (St.got E (by simp)) (by omega) (by omega) rfl HP.out).mono ?_; rintro e w2 ⟨A1, n1, c1, rfl, h1, hb1⟩; replace E := Lib.hid (St.push E.out hb1 h1); clear h1 hb1
  clear p0 p1 p2 pf0 pf1 pf2 plt
  obtain ⟨p0, p1, p2, pf0, pf1, pf2, plt⟩ := St.at_ (x0 := (.bool (ngB i))) (x1 := (.slice A n c)) (x2 := (.int .i64 (s : Int))) (g := w.heap.size) E (by simp)
  have hb := HB.out
  go_wp2_with fail
  clear hb
  clear hpr hp0 hpl
  refine (refDone_is (b := false) (A := A1) (n := n1) (c := c1) (s := r) (St.got E (by simp)) (by omega) HX.out).mono ?_; rintro e w3 ⟨rfl, hb1⟩; replace E := Lib.hid (St.step E.out hb1); clear hb1
  clear p0 p1 p2 pf0 pf1 pf2 plt
  obtain ⟨r0, r1, r2, rf0, rf1, rf2, rlt⟩ := St.at_ (x0 := .bool false) (x1 := .slice none 0 0) (x2 := .int .i64 0) (g := (w.heap.size + 1)) E (by simp)
  go_wp2_with fail
  have EF := Lib.hid (St.store E.out (g := w.heap.size + 1) (x0 := .bool false) (x1 := .slice none 0 0) (x2 := .int .i64 0) (by simp) (noLimb_bool _) (noLimb_slice _ _ _) (noLimb_int _) [] (fun q hq => by cases hq) (.bool (ngB x)) (.slice A1 n1 c1) (.int .i64 (r : Int)))
  obtain ⟨e0, e1, e2, _, _, _, _⟩ := St.at_ (x0 := .bool (ngB x)) (x1 := .slice A1 n1 c1) (x2 := .int .i64 (r : Int)) (g := w.heap.size + 1) EF (by simp)
  exact bodyPost_ret (v := .tuple #[.agg #[.bool (ngB x), .slice A1 n1 c1, .int .i64 (r : Int)], .int .i64 0]) (by simp [results, Try.results39, go_sem, e0, e1, e2]) rfl ⟨A1, n1, c1, rfl, St.got EF (by simp), EF.out.bel⟩

theorem refPower5_any (A : Option Addr) (n c s k : Nat) (i : Int) (w : World) (h : Num w w.heap.size A n c i.natAbs) (hn : n ≤ 100) (hs : s ≤ 10000) (hk : k ≤ 255) :
    Calls Try.prog 39 #[.agg #[.bool (ngB i), .slice A n c, .int .i64 (s : Int)], .int .i64 (k : Int)] w (RetDecE w (i ^ k) (s * k)) := by
  rcases Int.lt_or_le i 0 with h0 | h0
  · rcases Nat.mod_two_eq_zero_or_one k with ho | ho
    · exact refPower5_even A n c s k i w h hn hs hk h0 ho
    · exact refPower5_odd A n c s k i w h hn hs hk h0 ho
  · exact refPower5_pos A n c s k i w h hn hs hk h0

end Go.Proofs.Ytafbkoejobkncaa
