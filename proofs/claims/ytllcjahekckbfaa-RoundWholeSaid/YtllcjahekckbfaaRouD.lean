/-
  Contracts of layer 6, the fourth part: Unit, Half, Exact and the document's, at any scale; the document's Div.
-/
import Derived.Test.YtllcjahekckbfaaRouC
set_option linter.unusedVariables false
set_option linter.unusedSimpArgs false
namespace Go.Proofs.Ytllcjahekckbfaa
open Go.RowKit

theorem max_gen0 {v : Int} {S : Nat} (h : max v 0 = (S : Int)) : max 0 v = (S : Int) := by omega

theorem field_two (b : Bool) (A : Option Addr) (n c : Nat) (x : Int) (w : World) : (Instr.field 25 (.agg #[.bool b, .slice A n c, .int .i64 x]) 2).run Try.prog w = .ok (.int .i64 x) w := by kernel_rfl

set_option maxRecDepth 100000 in
theorem decV_any {A : Option Addr} {n c a S : Nat} {v : Int} {w : World} (h : Num w w.heap.size A n c a) (hv : max v 0 = (S : Int)) :
    Calls Try.prog 24 #[.bool false, .slice A n c, .int .i64 v] w fun e w' => e = .returned (.agg #[.bool false, .slice A n c, .int .i64 (S : Int)]) ∧ Below w.heap.size w w' := by
  have hm := max_gen (P := Try.prog) hv
  clear h
  go_enter Try.func24, Try.ntmps24
  go_wp2
  exact bodyPost_ret (v := .agg #[.bool false, .slice A n c, .int .i64 (S : Int)]) (by simp [results, Try.results24, go_sem]) rfl ⟨rfl, (Below.refl _ _).alloc (Nat.le_refl _) _⟩

set_option maxRecDepth 100000 in
theorem mk1_is {S : Nat} {v : Int} (w : World) (hv : max v 0 = (S : Int)) (hS : S ≤ 100000) :
    Calls Try.prog 19 #[.int .i64 1, .int .i64 v] w (RetDec w 1 S) := by
  have hm := max_gen (P := Try.prog) (max_gen0 hv)
  go_enter Try.func19, Try.ntmps19
  go_wp2_with fail
  generalize hW : World.alloc w _ = W0
  have E0 : St w W0 [] [(w.heap.size, .bool false, .slice none 0 0, .int .i64 0)] := by rw [← hW]; exact (St.start w (l := []) (fun q hq => by cases hq)).lay rfl
  have E := Lib.hid E0
  clear hW E0
  refine (mk_any 1 1 rfl (by decide) _).mono ?_; rintro e w1 ⟨A1, n1, c1, rfl, h1, hb1⟩; replace E := Lib.hid (St.push E.out hb1 h1); clear h1 hb1
  go_wp2_with fail
  refine (decV_any (S := S) (a := 1) (St.got E (by simp)) hv).mono ?_; rintro e w2 ⟨rfl, hb1⟩; replace E := Lib.hid (St.step E.out hb1); clear hb1
  obtain ⟨r0, r1, r2, rf0, rf1, rf2, rlt⟩ := St.at_ (x0 := .bool false) (x1 := .slice none 0 0) (x2 := .int .i64 0) (g := w.heap.size) E (by simp)
  go_wp2_with fail
  have EF := Lib.hid (St.store E.out (g := w.heap.size) (x0 := .bool false) (x1 := .slice none 0 0) (x2 := .int .i64 0) (by simp) (noLimb_bool _) (noLimb_slice _ _ _) (noLimb_int _) [] (fun q hq => by cases hq) (.bool false) (.slice A1 n1 c1) (.int .i64 (S : Int)))
  obtain ⟨e0, e1, e2, _, _, _, _⟩ := St.at_ (x0 := .bool false) (x1 := .slice A1 n1 c1) (x2 := .int .i64 (S : Int)) (g := w.heap.size) EF (by simp)
  exact bodyPost_ret (v := .agg #[.bool false, .slice A1 n1 c1, .int .i64 (S : Int)]) (by simp [results, Try.results19, go_sem, e0, e1, e2]) rfl ⟨A1, n1, c1, rfl, St.got EF (by simp), EF.out.bel⟩

set_option maxRecDepth 100000 in
theorem unit_is {S : Nat} {v : Int} (w : World) (hv : max v 0 = (S : Int)) (hS : S ≤ 100000) :
    Calls Try.prog 16 #[.int .i64 v] w (RetDec w 1 S) := by
  go_enter Try.func16, Try.ntmps16
  go_wp2_with fail
  generalize hW : World.alloc w _ = W0
  have E0 : St w W0 [] [(w.heap.size, .bool false, .slice none 0 0, .int .i64 0)] := by rw [← hW]; exact (St.start w (l := []) (fun q hq => by cases hq)).lay rfl
  have E := Lib.hid E0
  clear hW E0
  refine (mk1_is _ hv hS).mono ?_; rintro e w1 ⟨A1, n1, c1, rfl, h1, hb1⟩; replace E := Lib.hid (St.push E.out hb1 h1); clear h1 hb1
  obtain ⟨r0, r1, r2, rf0, rf1, rf2, rlt⟩ := St.at_ (x0 := .bool false) (x1 := .slice none 0 0) (x2 := .int .i64 0) (g := w.heap.size) E (by simp)
  go_wp2_with fail
  have EF := Lib.hid (St.store E.out (g := w.heap.size) (x0 := .bool false) (x1 := .slice none 0 0) (x2 := .int .i64 0) (by simp) (noLimb_bool _) (noLimb_slice _ _ _) (noLimb_int _) [] (fun q hq => by cases hq) (.bool (ngB (1))) (.slice A1 n1 c1) (.int .i64 (S : Int)))
  obtain ⟨e0, e1, e2, _, _, _, _⟩ := St.at_ (x0 := .bool (ngB (1))) (x1 := .slice A1 n1 c1) (x2 := .int .i64 (S : Int)) (g := w.heap.size) EF (by simp)
  exact bodyPost_ret (v := .agg #[.bool (ngB (1)), .slice A1 n1 c1, .int .i64 (S : Int)]) (by simp [results, Try.results16, go_sem, e0, e1, e2]) rfl ⟨A1, n1, c1, rfl, St.got EF (by simp), EF.out.bel⟩

set_option maxRecDepth 100000 in
theorem half_is {S : Nat} {v : Int} (w : World) (hv : max v 0 = (S : Int)) (hS : S ≤ 10000) :
    Calls Try.prog 21 #[.int .i64 v] w (RetDec w 5 (S + 1)) := by
  have hm := max_gen (P := Try.prog) hv
  have hm2 := min_gen (P := Try.prog) (x := (S : Int)) (y := 9223372036854775806) (z := (S : Int)) (by omega)
  obtain ⟨M, hM⟩ : ∃ M, S + 1 = M := ⟨_, rfl⟩
  have hMM : (S : Int) + 1 = (M : Int) := by omega
  have hMb : M ≤ 100000 := by omega
  rw [hM]
  clear hM hv
  go_enter Try.func21, Try.ntmps21
  go_wp2_with fail
  generalize hW : World.alloc w _ = W0
  have E0 : St w W0 [] [(w.heap.size, .bool false, .slice none 0 0, .int .i64 0)] := by rw [← hW]; exact (St.start w (l := []) (fun q hq => by cases hq)).lay rfl
  have E := Lib.hid E0
  clear hW E0
  refine (mk_is5 (i := 5) (s := M) _ rfl (by omega) (by decide) hMb).mono ?_; rintro e w1 ⟨A1, n1, c1, rfl, h1, hb1⟩; replace E := Lib.hid (St.push E.out hb1 h1); clear h1 hb1
  obtain ⟨r0, r1, r2, rf0, rf1, rf2, rlt⟩ := St.at_ (x0 := .bool false) (x1 := .slice none 0 0) (x2 := .int .i64 0) (g := w.heap.size) E (by simp)
  go_wp2_with fail
  have EF := Lib.hid (St.store E.out (g := w.heap.size) (x0 := .bool false) (x1 := .slice none 0 0) (x2 := .int .i64 0) (by simp) (noLimb_bool _) (noLimb_slice _ _ _) (noLimb_int _) [] (fun q hq => by cases hq) (.bool (ngB (5))) (.slice A1 n1 c1) (.int .i64 (M : Int)))
  obtain ⟨e0, e1, e2, _, _, _, _⟩ := St.at_ (x0 := .bool (ngB (5))) (x1 := .slice A1 n1 c1) (x2 := .int .i64 (M : Int)) (g := w.heap.size) EF (by simp)
  exact bodyPost_ret (v := .agg #[.bool (ngB (5)), .slice A1 n1 c1, .int .i64 (M : Int)]) (by simp [results, Try.results21, go_sem, e0, e1, e2]) rfl ⟨A1, n1, c1, rfl, St.got EF (by simp), EF.out.bel⟩

theorem lit_5 (w : World) : Num (w.alloc (.cells #[.int .u32 5] 67)) (w.alloc (.cells #[.int .u32 5] 67)).heap.size (some ⟨w.heap.size, 0, none⟩) 1 1 5 := by
  have e : dg 5 = [5] := by rw [dg_pos (by omega), dg_zero]
  rw [Num, e]
  exact Lim.lit w [5] _ rfl (by decide) (by decide) _

/-- Is it one of the scale S? -/
def exactB (i : Int) (s S : Nat) : Bool := decide (s - stripK i s S ≤ S)
theorem exact_two (i : Int) (s S : Nat) : decide (s - stripK i s 0 ≤ S) = exactB i s S := by
  unfold exactB stripK
  rw [decide_eq_decide]
  split <;> omega

set_option maxRecDepth 100000 in
theorem exact_is {A : Option Addr} {n c s S : Nat} {i v : Int} {z : Bool} {w : World} (h : Num w w.heap.size A n c i.natAbs) (hn : n ≤ 1000) (hs : s ≤ 100000) (hv : max v 0 = (S : Int)) (hS : S ≤ 100000) (hz : exactB i s S = z) :
    Calls Try.prog 22 #[.agg #[.bool (ngB i), .slice A n c, .int .i64 (s : Int)], .int .i64 v] w (RetVal w (.bool z)) := by
  have H := Lib.hid h
  obtain ⟨M, hM⟩ : ∃ M, s - stripK i s S = M := ⟨_, rfl⟩
  have HM := Lib.hid hM
  have HZ : Hid (decide (M ≤ S) = z) := by show _ = _; rw [← hM, ← hz]; rfl
  have hm := max_gen (P := Try.prog) hv
  have HV := Lib.hid hv
  clear h hM hz hv
  go_enter Try.func22, Try.ntmps22
  go_wp2_with fail
  generalize hW : World.alloc w _ = W0
  have E0 : St w W0 [(A, n, c, i.natAbs)] [(w.heap.size, (.bool (ngB i)), (.slice A n c), (.int .i64 (s : Int)))] := by rw [← hW]; exact (start_one H.out).lay rfl
  have E := Lib.hid E0
  clear hW E0
  obtain ⟨p0, p1, p2, pf0, pf1, pf2, plt⟩ := St.at_ (x0 := (.bool (ngB i))) (x1 := (.slice A n c)) (x2 := (.int .i64 (s : Int))) (g := w.heap.size) E (by simp)
  go_wp2_with fail
  refine (strip_is5 (L := S) (St.got E (A := A) (n := n) (c := c) (a := i.natAbs) (by simp)) hn hs HV.out (by omega) HM.out rfl).mono ?_; rintro e w1 ⟨A1, n1, c1, rfl, h1, hb1⟩; replace E := Lib.hid (St.push E.out hb1 h1); clear h1 hb1
  have hfd := field_two (ngB (stripI i s S)) A1 n1 c1 (M : Int)
  go_wp2_with fail
  go_ret
  exact ⟨ret_bool (by rw [← HZ.out]), E.out.bel⟩

end Go.Proofs.Ytllcjahekckbfaa
