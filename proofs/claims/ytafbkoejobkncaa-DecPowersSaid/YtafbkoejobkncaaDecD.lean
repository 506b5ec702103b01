/-
  Contracts of layer 5, the fourth part: Align and the document's.
-/
import Derived.Test.YtafbkoejobkncaaDecC
import Derived.Laws.Cover1
namespace Go.Proofs.Ytafbkoejobkncaa
open Go.RowKit

theorem max_three {P : Program} {s t M : Nat} (h : max s t = M) (ts : Array TypeId) (ty : TypeId) (W : World) : (Builtin.max_ ts ty #[.int .i64 (s : Int), .int .i64 (t : Int), .int .i64 0]).run P W = .ok (.int .i64 (M : Int)) W := by
  rw [run_max_int3]
  have e : (if (0 : Int) > (if (t : Int) > (s : Int) then (t : Int) else (s : Int)) then (0 : Int) else (if (t : Int) > (s : Int) then (t : Int) else (s : Int))) = (M : Int) := by
    split <;> split <;> omega
  rw [e]

set_option maxHeartbeats 4000000 in
theorem align_any (A A' : Option Addr) (n c n' c' s t : Nat) (i j : Int) (w : World) (h : Num w w.heap.size A n c i.natAbs) (h' : Num w w.heap.size A' n' c' j.natAbs) (hn : n ≤ 1000000) (hn' : n' ≤ 1000000) (hs : s ≤ 100000) (ht : t ≤ 100000) :
    Calls Try.prog 15 #[.agg #[.bool (ngB i), .slice A n c, .int .i64 (s : Int)], .agg #[.bool (ngB j), .slice A' n' c', .int .i64 (t : Int)]] w (RetDec2 w (up i s (max s t)) (max s t) (up j t (max s t)) (max s t)) := by
  have H := Lib.hid h
  have H' := Lib.hid h'
  clear h h'
  obtain ⟨M, hm⟩ : ∃ M, max s t = M := ⟨_, rfl⟩
  have hsM : s ≤ M := by omega
  have htM : t ≤ M := by omega
  have hM : M ≤ 100000 := by omega
  rw [hm]
  clear hs ht
  have hmx := max_three (P := Try.prog) hm
  go_enter Try.func15, Try.ntmps15
  go_wp2_with fail
  generalize hW : World.alloc (World.alloc (World.alloc (World.alloc w _) _) _) _ = W0
  have E0 : St w W0 [(A, n, c, (i).natAbs), (A', n', c', (j).natAbs)] [((w.heap.size + 1 + 1 + 1), .bool false, .slice none 0 0, .int .i64 0), ((w.heap.size + 1 + 1), .bool false, .slice none 0 0, .int .i64 0), ((w.heap.size + 1), (.bool (ngB j)), (.slice A' n' c'), (.int .i64 (t : Int))), (w.heap.size, (.bool (ngB i)), (.slice A n c), (.int .i64 (s : Int)))] := by rw [← hW]; exact ((((start_two H.out H'.out).lay rfl).lay (by simp)).lay (by simp)).lay (by simp)
  have E := Lib.hid E0
  clear hW E0
  obtain ⟨p0, p1, p2, pf0, pf1, pf2, plt⟩ := St.at_ (x0 := (.bool (ngB i))) (x1 := (.slice A n c)) (x2 := (.int .i64 (s : Int))) (g := w.heap.size) E (by simp)
  obtain ⟨q0, q1, q2, qf0, qf1, qf2, qlt⟩ := St.at_ (x0 := (.bool (ngB j))) (x1 := (.slice A' n' c')) (x2 := (.int .i64 (t : Int))) (g := (w.heap.size + 1)) E (by simp)
  go_wp2_with fail
  clear hmx hm p0 p1 p2 pf0 pf1 pf2 plt q0 q1 q2 qf0 qf1 qf2 qlt
  replace E := Lib.hid (St.drew E.out)
  go_region_held3 (fun v => v.cell? ⟨w.heap.size, 0, none⟩ = some (.bool (ngB i)) ∧ v.cell? ⟨w.heap.size, 1, none⟩ = some (.slice A n c) ∧ v.cell? ⟨w.heap.size, 2, none⟩ = some (.int .i64 (s : Int)) ∧ v.cell? ⟨w.heap.size + 1, 0, none⟩ = some (.bool (ngB j)) ∧ v.cell? ⟨w.heap.size + 1, 1, none⟩ = some (.slice A' n' c') ∧ v.cell? ⟨w.heap.size + 1, 2, none⟩ = some (.int .i64 (t : Int))) (first | (have X0 := St.at_ (x0 := (.bool (ngB i))) (x1 := (.slice A n c)) (x2 := (.int .i64 (s : Int))) (g := w.heap.size) E (by simp); have X1 := St.at_ (x0 := (.bool (ngB j))) (x1 := (.slice A' n' c')) (x2 := (.int .i64 (t : Int))) (g := (w.heap.size + 1)) E (by simp); with_reducible exact ⟨X0.c0, X0.c1, X0.c2, X1.c0, X1.c1, X1.c2⟩) | (with_reducible exact ⟨((St.at_ (x0 := (.bool (ngB i))) (x1 := (.slice A n c)) (x2 := (.int .i64 (s : Int))) (g := w.heap.size) E (by simp)).apart (g' := (w.heap.size + 1 + 1)) _ _ _ (by omega)).c0, ((St.at_ (x0 := (.bool (ngB i))) (x1 := (.slice A n c)) (x2 := (.int .i64 (s : Int))) (g := w.heap.size) E (by simp)).apart (g' := (w.heap.size + 1 + 1)) _ _ _ (by omega)).c1, ((St.at_ (x0 := (.bool (ngB i))) (x1 := (.slice A n c)) (x2 := (.int .i64 (s : Int))) (g := w.heap.size) E (by simp)).apart (g' := (w.heap.size + 1 + 1)) _ _ _ (by omega)).c2, ((St.at_ (x0 := (.bool (ngB j))) (x1 := (.slice A' n' c')) (x2 := (.int .i64 (t : Int))) (g := (w.heap.size + 1)) E (by simp)).apart (g' := (w.heap.size + 1 + 1)) _ _ _ (by omega)).c0, ((St.at_ (x0 := (.bool (ngB j))) (x1 := (.slice A' n' c')) (x2 := (.int .i64 (t : Int))) (g := (w.heap.size + 1)) E (by simp)).apart (g' := (w.heap.size + 1 + 1)) _ _ _ (by omega)).c1, ((St.at_ (x0 := (.bool (ngB j))) (x1 := (.slice A' n' c')) (x2 := (.int .i64 (t : Int))) (g := (w.heap.size + 1)) E (by simp)).apart (g' := (w.heap.size + 1 + 1)) _ _ _ (by omega)).c2⟩) | (with_reducible exact ⟨(((St.at_ (x0 := (.bool (ngB i))) (x1 := (.slice A n c)) (x2 := (.int .i64 (s : Int))) (g := w.heap.size) E (by simp)).apart (g' := (w.heap.size + 1 + 1)) _ _ _ (by omega)).apart (g' := (w.heap.size + 1 + 1 + 1)) _ _ _ (by omega)).c0, (((St.at_ (x0 := (.bool (ngB i))) (x1 := (.slice A n c)) (x2 := (.int .i64 (s : Int))) (g := w.heap.size) E (by simp)).apart (g' := (w.heap.size + 1 + 1)) _ _ _ (by omega)).apart (g' := (w.heap.size + 1 + 1 + 1)) _ _ _ (by omega)).c1, (((St.at_ (x0 := (.bool (ngB i))) (x1 := (.slice A n c)) (x2 := (.int .i64 (s : Int))) (g := w.heap.size) E (by simp)).apart (g' := (w.heap.size + 1 + 1)) _ _ _ (by omega)).apart (g' := (w.heap.size + 1 + 1 + 1)) _ _ _ (by omega)).c2, (((St.at_ (x0 := (.bool (ngB j))) (x1 := (.slice A' n' c')) (x2 := (.int .i64 (t : Int))) (g := (w.heap.size + 1)) E (by simp)).apart (g' := (w.heap.size + 1 + 1)) _ _ _ (by omega)).apart (g' := (w.heap.size + 1 + 1 + 1)) _ _ _ (by omega)).c0, (((St.at_ (x0 := (.bool (ngB j))) (x1 := (.slice A' n' c')) (x2 := (.int .i64 (t : Int))) (g := (w.heap.size + 1)) E (by simp)).apart (g' := (w.heap.size + 1 + 1)) _ _ _ (by omega)).apart (g' := (w.heap.size + 1 + 1 + 1)) _ _ _ (by omega)).c1, (((St.at_ (x0 := (.bool (ngB j))) (x1 := (.slice A' n' c')) (x2 := (.int .i64 (t : Int))) (g := (w.heap.size + 1)) E (by simp)).apart (g' := (w.heap.size + 1 + 1)) _ _ _ (by omega)).apart (g' := (w.heap.size + 1 + 1 + 1)) _ _ _ (by omega)).c2⟩))
    (first | (go_at_call 51; first | ((with_reducible refine (raised_any A n c s M i _ (St.got E (by simp)) hn hsM hM).mono ?_); rintro e w1 ⟨A1, n1, c1, rfl, h1, hb1⟩; replace E := Lib.hid (St.push E.out hb1 h1); clear h1 hb1) | ((with_reducible refine (raised_any A' n' c' t M j _ (St.got E (by simp)) hn' htM hM).mono ?_); rintro e w2 ⟨A2, n2, c2, rfl, h2, hb2⟩; replace E := Lib.hid (St.push E.out hb2 h2); clear h2 hb2; obtain ⟨r0, r1, r2, rf0, rf1, rf2, rlt⟩ := St.at_ (x0 := .bool false) (x1 := .slice none 0 0) (x2 := .int .i64 0) (g := (w.heap.size + 1 + 1)) E (by simp); obtain ⟨z0, z1, z2, zf0, zf1, zf2, zlt⟩ := St.at_ (x0 := .bool false) (x1 := .slice none 0 0) (x2 := .int .i64 0) (g := (w.heap.size + 1 + 1 + 1)) E (by simp))))
  go_wp2_with fail
  have F := Lib.hid (St.store E.out (g := (w.heap.size + 1 + 1)) (x0 := .bool false) (x1 := .slice none 0 0) (x2 := .int .i64 0) (by simp) (noLimb_bool _) (noLimb_slice _ _ _) (noLimb_int _) [((w.heap.size + 1 + 1 + 1), .bool false, .slice none 0 0, .int .i64 0)] (by simp <;> omega) (.bool (ngB (up i s M))) (.slice A1 n1 c1) (.int .i64 (M : Int)))
  have G := Lib.hid (St.store F.out (g := (w.heap.size + 1 + 1 + 1)) (x0 := .bool false) (x1 := .slice none 0 0) (x2 := .int .i64 0) (by simp) (noLimb_bool _) (noLimb_slice _ _ _) (noLimb_int _) [((w.heap.size + 1 + 1), .bool (ngB (up i s M)), .slice A1 n1 c1, .int .i64 (M : Int))] (by simp <;> omega) (.bool (ngB (up j t M))) (.slice A2 n2 c2) (.int .i64 (M : Int)))
  obtain ⟨u0, u1, u2, _, _, _, _⟩ := St.at_ (x0 := .bool (ngB (up i s M))) (x1 := .slice A1 n1 c1) (x2 := .int .i64 (M : Int)) (g := (w.heap.size + 1 + 1)) G (by simp)
  obtain ⟨v0, v1, v2, _, _, _, _⟩ := St.at_ (x0 := .bool (ngB (up j t M))) (x1 := .slice A2 n2 c2) (x2 := .int .i64 (M : Int)) (g := (w.heap.size + 1 + 1 + 1)) G (by simp)
  exact bodyPost_ret (v := .tuple #[.agg #[.bool (ngB (up i s M)), .slice A1 n1 c1, .int .i64 (M : Int)], .agg #[.bool (ngB (up j t M)), .slice A2 n2 c2, .int .i64 (M : Int)]]) (by simp [results, Try.results15, go_sem, u0, u1, u2, v0, v1, v2]) rfl ⟨A1, n1, c1, A2, n2, c2, rfl, St.got G (by simp), St.got G (by simp), G.out.bel⟩

end Go.Proofs.Ytafbkoejobkncaa
