/-
 The contracts of Share and Money, and of the document's.
-/
import Derived.Test.YthlhpgphmfnlgaaGreatRouR
import Derived.Test.YthlhpgphmfnlgaaGreatRouF
import Derived.Test.YthlhpgphmfnlgaaGreatRouU
set_option maxRecDepth 100000
set_option maxHeartbeats 32000000
set_option linter.unusedVariables false
set_option linter.unusedSimpArgs false
namespace Go.Proofs.YthlhpgphmfnlgaaGreat
open Go.RowKit
def RetDecY (W : World) (i : Int) (s : Nat) (er : Int) (e : Ending) (w' : World) : Prop :=
 ∃ A n c, e = .returned (.tuple #[.agg #[.bool (ngB i), .slice A n c, .int .i64 (s : Int)], .int .i64 er]) ∧ Num w' w'.heap.size A n c i.natAbs ∧ Below W.heap.size W w'
section
variable {A A' : Option Addr} {n c n' c' s t S T : Nat} {i j v z er : Int} {w : World}
theorem rdiv_bothY (h : Num w w.heap.size A n c i.natAbs) (h' : Num w w.heap.size A' n' c' j.natAbs) (hn : n ≤ 1000) (hn' : n' ≤ 1000) (hs : s ≤ 1000) (ht : t ≤ 1000) (hv : max v 0 = (S : Int)) (hS : S ≤ 1000) (hc : j ≠ 0 ∧ divZ i s j t S = z ∧ S = T ∧ er = 0 ∨ j = 0 ∧ z = 0 ∧ T = 0 ∧ er = 4) :
   Calls Tryz.prog 14 #[.agg #[.bool (ngB i), .slice A n c, .int .i64 (s : Int)], .agg #[.bool (ngB j), .slice A' n' c', .int .i64 (t : Int)], .int .i64 v] w (RetDecY w z T er) := by
 rcases hc with ⟨h0, rfl, rfl, rfl⟩ | ⟨h0, rfl, rfl, rfl⟩
 · exact (rdiv_is h h' hn hn' hs ht hv hS h0 rfl).mono fun _ _ h => h
 · exact (rdiv_zero h h' hn hn' hs ht hv hS h0).mono fun _ _ ⟨he, hb⟩ => ⟨none, 0, 0, he, num_none _ _, hb⟩
theorem refdiv_bothY (h : Num w w.heap.size A n c i.natAbs) (h' : Num w w.heap.size A' n' c' j.natAbs) (hn : n ≤ 1000) (hn' : n' ≤ 1000) (hs : s ≤ 1000) (ht : t ≤ 1000) (hv : max v 0 = (S : Int)) (hS : S ≤ 1000) (hc : j ≠ 0 ∧ divZ i s j t S = z ∧ S = T ∧ er = 0 ∨ j = 0 ∧ z = 0 ∧ T = 0 ∧ er = 4) :
   Calls Tryz.prog 42 #[.agg #[.bool (ngB i), .slice A n c, .int .i64 (s : Int)], .agg #[.bool (ngB j), .slice A' n' c', .int .i64 (t : Int)], .int .i64 v] w (RetDecY w z T er) := by
 rcases hc with ⟨h0, rfl, rfl, rfl⟩ | ⟨h0, rfl, rfl, rfl⟩
 · exact (refdiv_is h h' hn hn' hs ht hv hS h0 rfl).mono fun _ _ h => h
 · exact (refdiv_zero h h' hn hn' hs ht hv hS h0).mono fun _ _ ⟨he, hb⟩ => ⟨none, 0, 0, he, num_none _ _, hb⟩
end
theorem share_any (A A' A'' : Option Addr) (n c n' c' n'' c'' s t u S T : Nat) (i j k v z er : Int) (w : World) (h : Num w w.heap.size A n c i.natAbs) (h' : Num w w.heap.size A' n' c' j.natAbs) (h'' : Num w w.heap.size A'' n'' c'' k.natAbs) (hn : n ≤ 12) (hn' : n' ≤ 12) (hn'' : n'' ≤ 12) (hs : s ≤ 60) (ht : t ≤ 60) (hu : u ≤ 60) (hv : max v 0 = (S : Int)) (hS : S ≤ 60) (hc : k ≠ 0 ∧ divZ (i * j) (s + t) k u S = z ∧ S = T ∧ er = 0 ∨ k = 0 ∧ z = 0 ∧ T = 0 ∧ er = 4) :
   Calls Tryz.prog 9 #[.agg #[.bool (ngB i), .slice A n c, .int .i64 (s : Int)], .agg #[.bool (ngB j), .slice A' n' c', .int .i64 (t : Int)], .agg #[.bool (ngB k), .slice A'' n'' c'', .int .i64 (u : Int)], .int .i64 v] w (RetDecY w z T er) := by
 have zi : Sz i s 108 := Sz.of_len (by have := h.len; omega : (dg i.natAbs).length ≤ 12)
 have zj : Sz j t 108 := Sz.of_len (by have := h'.len; omega : (dg j.natAbs).length ≤ 12)
 obtain ⟨y, hy⟩ : ∃ y, i * j = y := ⟨_, rfl⟩
 obtain ⟨e1, he1⟩ : ∃ e1, s + t = e1 := ⟨_, rfl⟩
 have HYL : Hid ((dg y.natAbs).length ≤ 400) := by
   show _ ≤ _
   have z := (zi.mul zj).len
   rw [hy] at z; omega
 have he120 : e1 ≤ 120 := by omega
 rw [hy, he1] at hc
 have HY := Lib.hid hy
 have HE1 := Lib.hid he1
 have HC := Lib.hid hc
 have HV := Lib.hid hv
 have H := Lib.hid h
 have H' := Lib.hid h'
 have H'' := Lib.hid h''
 clear h h' h'' hv hy he1 hc zi zj
 go_enter Tryz.func9, Tryz.ntmps9
 go_wp2_with fail
 generalize hW : World.alloc (World.alloc (World.alloc (World.alloc w _) _) _) _ = W0
 have E0 : St w W0 [(A, n, c, (i).natAbs), (A', n', c', (j).natAbs), (A'', n'', c'', (k).natAbs)] [((w.heap.size + 1 + 1 + 1), .bool false, .slice none 0 0, .int .i64 0), ((w.heap.size + 1 + 1), (.bool (ngB k)), (.slice A'' n'' c''), (.int .i64 (u : Int))), ((w.heap.size + 1), (.bool (ngB j)), (.slice A' n' c'), (.int .i64 (t : Int))), (w.heap.size, (.bool (ngB i)), (.slice A n c), (.int .i64 (s : Int)))] := by rw [← hW]; exact ((((start_three H.out H'.out H''.out).lay rfl).lay (by simp)).lay (by simp)).lay (by simp)
 have E := Lib.hid E0.drew
 clear hW E0
 go_region_held3 (fun v => v.cell? ⟨w.heap.size, 0, none⟩ = some (.bool (ngB i)) ∧ v.cell? ⟨w.heap.size, 1, none⟩ = some (.slice A n c) ∧ v.cell? ⟨w.heap.size, 2, none⟩ = some (.int .i64 (s : Int)) ∧ v.cell? ⟨w.heap.size + 1, 0, none⟩ = some (.bool (ngB j)) ∧ v.cell? ⟨w.heap.size + 1, 1, none⟩ = some (.slice A' n' c') ∧ v.cell? ⟨w.heap.size + 1, 2, none⟩ = some (.int .i64 (t : Int)) ∧ v.cell? ⟨w.heap.size + 1 + 1, 0, none⟩ = some (.bool (ngB k)) ∧ v.cell? ⟨w.heap.size + 1 + 1, 1, none⟩ = some (.slice A'' n'' c'') ∧ v.cell? ⟨w.heap.size + 1 + 1, 2, none⟩ = some (.int .i64 (u : Int))) (first | (have X0 := St.at_ (x0 := (.bool (ngB i))) (x1 := (.slice A n c)) (x2 := (.int .i64 (s : Int))) (g := w.heap.size) E (by simp); have X1 := St.at_ (x0 := (.bool (ngB j))) (x1 := (.slice A' n' c')) (x2 := (.int .i64 (t : Int))) (g := (w.heap.size + 1)) E (by simp); have X2 := St.at_ (x0 := (.bool (ngB k))) (x1 := (.slice A'' n'' c'')) (x2 := (.int .i64 (u : Int))) (g := (w.heap.size + 1 + 1)) E (by simp); with_reducible exact ⟨X0.c0, X0.c1, X0.c2, X1.c0, X1.c1, X1.c2, X2.c0, X2.c1, X2.c2⟩) | (with_reducible exact ⟨((St.at_ (x0 := (.bool (ngB i))) (x1 := (.slice A n c)) (x2 := (.int .i64 (s : Int))) (g := w.heap.size) E (by simp)).apart (g' := (w.heap.size + 1 + 1 + 1)) _ _ _ (by omega)).c0, ((St.at_ (x0 := (.bool (ngB i))) (x1 := (.slice A n c)) (x2 := (.int .i64 (s : Int))) (g := w.heap.size) E (by simp)).apart (g' := (w.heap.size + 1 + 1 + 1)) _ _ _ (by omega)).c1, ((St.at_ (x0 := (.bool (ngB i))) (x1 := (.slice A n c)) (x2 := (.int .i64 (s : Int))) (g := w.heap.size) E (by simp)).apart (g' := (w.heap.size + 1 + 1 + 1)) _ _ _ (by omega)).c2, ((St.at_ (x0 := (.bool (ngB j))) (x1 := (.slice A' n' c')) (x2 := (.int .i64 (t : Int))) (g := (w.heap.size + 1)) E (by simp)).apart (g' := (w.heap.size + 1 + 1 + 1)) _ _ _ (by omega)).c0, ((St.at_ (x0 := (.bool (ngB j))) (x1 := (.slice A' n' c')) (x2 := (.int .i64 (t : Int))) (g := (w.heap.size + 1)) E (by simp)).apart (g' := (w.heap.size + 1 + 1 + 1)) _ _ _ (by omega)).c1, ((St.at_ (x0 := (.bool (ngB j))) (x1 := (.slice A' n' c')) (x2 := (.int .i64 (t : Int))) (g := (w.heap.size + 1)) E (by simp)).apart (g' := (w.heap.size + 1 + 1 + 1)) _ _ _ (by omega)).c2, ((St.at_ (x0 := (.bool (ngB k))) (x1 := (.slice A'' n'' c'')) (x2 := (.int .i64 (u : Int))) (g := (w.heap.size + 1 + 1)) E (by simp)).apart (g' := (w.heap.size + 1 + 1 + 1)) _ _ _ (by omega)).c0, ((St.at_ (x0 := (.bool (ngB k))) (x1 := (.slice A'' n'' c'')) (x2 := (.int .i64 (u : Int))) (g := (w.heap.size + 1 + 1)) E (by simp)).apart (g' := (w.heap.size + 1 + 1 + 1)) _ _ _ (by omega)).c1, ((St.at_ (x0 := (.bool (ngB k))) (x1 := (.slice A'' n'' c'')) (x2 := (.int .i64 (u : Int))) (g := (w.heap.size + 1 + 1)) E (by simp)).apart (g' := (w.heap.size + 1 + 1 + 1)) _ _ _ (by omega)).c2⟩))
   (first | (go_at_call 41; (with_reducible refine (mul_is5 (i := i) (s := s) (j := j) (t := t) (St.got E (A := A) (n := n) (c := c) (a := i.natAbs) (by simp)) (St.got E (A := A') (n := n') (c := c') (a := j.natAbs) (by simp)) (by omega) (by omega) (by omega) (by omega) HE1.out HY.out).mono ?_); rintro e w1 ⟨A1, n1, c1, rfl, h1, hb1⟩; have b1 : n1 ≤ 400 := len_le h1 HYL.out; replace E := Lib.hid (St.push E.out hb1 h1); clear h1 hb1) | (go_at_call 14; (with_reducible refine (rdiv_bothY (i := y) (s := e1) (j := k) (t := u) (St.got E (A := A1) (n := n1) (c := c1) (a := y.natAbs) (by simp)) (St.got E (A := A'') (n := n'') (c := c'') (a := k.natAbs) (by simp)) (by omega) (by omega) (by omega) (by omega) HV.out (by omega) HC.out).mono ?_); rintro e w2 ⟨A2, n2, c2, rfl, h2, hb2⟩; replace E := Lib.hid (St.push E.out hb2 h2); clear h2 hb2; obtain ⟨r0, r1, r2, rf0, rf1, rf2, rlt⟩ := St.at_ (x0 := .bool false) (x1 := .slice none 0 0) (x2 := .int .i64 0) (g := (w.heap.size + 1 + 1 + 1)) E (by simp)))
 go_wp2_with fail
 have EF := Lib.hid (St.store E.out (g := (w.heap.size + 1 + 1 + 1)) (x0 := .bool false) (x1 := .slice none 0 0) (x2 := .int .i64 0) (by simp) (noLimb_bool _) (noLimb_slice _ _ _) (noLimb_int _) [] (fun q hq => by cases hq) (.bool (ngB z)) (.slice A2 n2 c2) (.int .i64 (T : Int)))
 obtain ⟨e0, e1', e2, _, _, _, _⟩ := St.at_ (x0 := .bool (ngB z)) (x1 := .slice A2 n2 c2) (x2 := .int .i64 (T : Int)) (g := (w.heap.size + 1 + 1 + 1)) EF (by simp)
 exact bodyPost_ret (v := .tuple #[.agg #[.bool (ngB z), .slice A2 n2 c2, .int .i64 (T : Int)], .int .i64 er]) (by simp [results, Tryz.results9, go_sem, e0, e1', e2]) rfl ⟨A2, n2, c2, rfl, St.got EF (by simp), EF.out.bel⟩
theorem refshare_any (A A' A'' : Option Addr) (n c n' c' n'' c'' s t u S T : Nat) (i j k v z er : Int) (w : World) (h : Num w w.heap.size A n c i.natAbs) (h' : Num w w.heap.size A' n' c' j.natAbs) (h'' : Num w w.heap.size A'' n'' c'' k.natAbs) (hn : n ≤ 12) (hn' : n' ≤ 12) (hn'' : n'' ≤ 12) (hs : s ≤ 60) (ht : t ≤ 60) (hu : u ≤ 60) (hv : max v 0 = (S : Int)) (hS : S ≤ 60) (hc : k ≠ 0 ∧ divZ (i * j) (s + t) k u S = z ∧ S = T ∧ er = 0 ∨ k = 0 ∧ z = 0 ∧ T = 0 ∧ er = 4) :
   Calls Tryz.prog 10 #[.agg #[.bool (ngB i), .slice A n c, .int .i64 (s : Int)], .agg #[.bool (ngB j), .slice A' n' c', .int .i64 (t : Int)], .agg #[.bool (ngB k), .slice A'' n'' c'', .int .i64 (u : Int)], .int .i64 v] w (RetDecY w z T er) := by
 have zi : Sz i s 108 := Sz.of_len (by have := h.len; omega : (dg i.natAbs).length ≤ 12)
 have zj : Sz j t 108 := Sz.of_len (by have := h'.len; omega : (dg j.natAbs).length ≤ 12)
 obtain ⟨y, hy⟩ : ∃ y, i * j = y := ⟨_, rfl⟩
 obtain ⟨e1, he1⟩ : ∃ e1, s + t = e1 := ⟨_, rfl⟩
 have HYL : Hid ((dg y.natAbs).length ≤ 400) := by
   show _ ≤ _
   have z := (zi.mul zj).len
   rw [hy] at z; omega
 have he120 : e1 ≤ 120 := by omega
 rw [hy, he1] at hc
 have HY := Lib.hid hy
 have HE1 := Lib.hid he1
 have HC := Lib.hid hc
 have HV := Lib.hid hv
 have H := Lib.hid h
 have H' := Lib.hid h'
 have H'' := Lib.hid h''
 clear h h' h'' hv hy he1 hc zi zj
 go_enter Tryz.func10, Tryz.ntmps10
 go_wp2_with fail
 generalize hW : World.alloc (World.alloc (World.alloc (World.alloc w _) _) _) _ = W0
 have E0 : St w W0 [(A, n, c, (i).natAbs), (A', n', c', (j).natAbs), (A'', n'', c'', (k).natAbs)] [((w.heap.size + 1 + 1 + 1), .bool false, .slice none 0 0, .int .i64 0), ((w.heap.size + 1 + 1), (.bool (ngB k)), (.slice A'' n'' c''), (.int .i64 (u : Int))), ((w.heap.size + 1), (.bool (ngB j)), (.slice A' n' c'), (.int .i64 (t : Int))), (w.heap.size, (.bool (ngB i)), (.slice A n c), (.int .i64 (s : Int)))] := by rw [← hW]; exact ((((start_three H.out H'.out H''.out).lay rfl).lay (by simp)).lay (by simp)).lay (by simp)
 have E := Lib.hid E0.drew
 clear hW E0
 go_region_held3 (fun v => v.cell? ⟨w.heap.size, 0, none⟩ = some (.bool (ngB i)) ∧ v.cell? ⟨w.heap.size, 1, none⟩ = some (.slice A n c) ∧ v.cell? ⟨w.heap.size, 2, none⟩ = some (.int .i64 (s : Int)) ∧ v.cell? ⟨w.heap.size + 1, 0, none⟩ = some (.bool (ngB j)) ∧ v.cell? ⟨w.heap.size + 1, 1, none⟩ = some (.slice A' n' c') ∧ v.cell? ⟨w.heap.size + 1, 2, none⟩ = some (.int .i64 (t : Int)) ∧ v.cell? ⟨w.heap.size + 1 + 1, 0, none⟩ = some (.bool (ngB k)) ∧ v.cell? ⟨w.heap.size + 1 + 1, 1, none⟩ = some (.slice A'' n'' c'') ∧ v.cell? ⟨w.heap.size + 1 + 1, 2, none⟩ = some (.int .i64 (u : Int))) (first | (have X0 := St.at_ (x0 := (.bool (ngB i))) (x1 := (.slice A n c)) (x2 := (.int .i64 (s : Int))) (g := w.heap.size) E (by simp); have X1 := St.at_ (x0 := (.bool (ngB j))) (x1 := (.slice A' n' c')) (x2 := (.int .i64 (t : Int))) (g := (w.heap.size + 1)) E (by simp); have X2 := St.at_ (x0 := (.bool (ngB k))) (x1 := (.slice A'' n'' c'')) (x2 := (.int .i64 (u : Int))) (g := (w.heap.size + 1 + 1)) E (by simp); with_reducible exact ⟨X0.c0, X0.c1, X0.c2, X1.c0, X1.c1, X1.c2, X2.c0, X2.c1, X2.c2⟩) | (with_reducible exact ⟨((St.at_ (x0 := (.bool (ngB i))) (x1 := (.slice A n c)) (x2 := (.int .i64 (s : Int))) (g := w.heap.size) E (by simp)).apart (g' := (w.heap.size + 1 + 1 + 1)) _ _ _ (by omega)).c0, ((St.at_ (x0 := (.bool (ngB i))) (x1 := (.slice A n c)) (x2 := (.int .i64 (s : Int))) (g := w.heap.size) E (by simp)).apart (g' := (w.heap.size + 1 + 1 + 1)) _ _ _ (by omega)).c1, ((St.at_ (x0 := (.bool (ngB i))) (x1 := (.slice A n c)) (x2 := (.int .i64 (s : Int))) (g := w.heap.size) E (by simp)).apart (g' := (w.heap.size + 1 + 1 + 1)) _ _ _ (by omega)).c2, ((St.at_ (x0 := (.bool (ngB j))) (x1 := (.slice A' n' c')) (x2 := (.int .i64 (t : Int))) (g := (w.heap.size + 1)) E (by simp)).apart (g' := (w.heap.size + 1 + 1 + 1)) _ _ _ (by omega)).c0, ((St.at_ (x0 := (.bool (ngB j))) (x1 := (.slice A' n' c')) (x2 := (.int .i64 (t : Int))) (g := (w.heap.size + 1)) E (by simp)).apart (g' := (w.heap.size + 1 + 1 + 1)) _ _ _ (by omega)).c1, ((St.at_ (x0 := (.bool (ngB j))) (x1 := (.slice A' n' c')) (x2 := (.int .i64 (t : Int))) (g := (w.heap.size + 1)) E (by simp)).apart (g' := (w.heap.size + 1 + 1 + 1)) _ _ _ (by omega)).c2, ((St.at_ (x0 := (.bool (ngB k))) (x1 := (.slice A'' n'' c'')) (x2 := (.int .i64 (u : Int))) (g := (w.heap.size + 1 + 1)) E (by simp)).apart (g' := (w.heap.size + 1 + 1 + 1)) _ _ _ (by omega)).c0, ((St.at_ (x0 := (.bool (ngB k))) (x1 := (.slice A'' n'' c'')) (x2 := (.int .i64 (u : Int))) (g := (w.heap.size + 1 + 1)) E (by simp)).apart (g' := (w.heap.size + 1 + 1 + 1)) _ _ _ (by omega)).c1, ((St.at_ (x0 := (.bool (ngB k))) (x1 := (.slice A'' n'' c'')) (x2 := (.int .i64 (u : Int))) (g := (w.heap.size + 1 + 1)) E (by simp)).apart (g' := (w.heap.size + 1 + 1 + 1)) _ _ _ (by omega)).c2⟩))
   (first | (go_at_call 43; (with_reducible refine (refmul_is5 (i := i) (s := s) (j := j) (t := t) (St.got E (A := A) (n := n) (c := c) (a := i.natAbs) (by simp)) (St.got E (A := A') (n := n') (c := c') (a := j.natAbs) (by simp)) (by omega) (by omega) (by omega) (by omega) HE1.out HY.out).mono ?_); rintro e w1 ⟨A1, n1, c1, rfl, h1, hb1⟩; have b1 : n1 ≤ 400 := len_le h1 HYL.out; replace E := Lib.hid (St.push E.out hb1 h1); clear h1 hb1) | (go_at_call 42; (with_reducible refine (refdiv_bothY (i := y) (s := e1) (j := k) (t := u) (St.got E (A := A1) (n := n1) (c := c1) (a := y.natAbs) (by simp)) (St.got E (A := A'') (n := n'') (c := c'') (a := k.natAbs) (by simp)) (by omega) (by omega) (by omega) (by omega) HV.out (by omega) HC.out).mono ?_); rintro e w2 ⟨A2, n2, c2, rfl, h2, hb2⟩; replace E := Lib.hid (St.push E.out hb2 h2); clear h2 hb2; obtain ⟨r0, r1, r2, rf0, rf1, rf2, rlt⟩ := St.at_ (x0 := .bool false) (x1 := .slice none 0 0) (x2 := .int .i64 0) (g := (w.heap.size + 1 + 1 + 1)) E (by simp)))
 go_wp2_with fail
 have EF := Lib.hid (St.store E.out (g := (w.heap.size + 1 + 1 + 1)) (x0 := .bool false) (x1 := .slice none 0 0) (x2 := .int .i64 0) (by simp) (noLimb_bool _) (noLimb_slice _ _ _) (noLimb_int _) [] (fun q hq => by cases hq) (.bool (ngB z)) (.slice A2 n2 c2) (.int .i64 (T : Int)))
 obtain ⟨e0, e1', e2, _, _, _, _⟩ := St.at_ (x0 := .bool (ngB z)) (x1 := .slice A2 n2 c2) (x2 := .int .i64 (T : Int)) (g := (w.heap.size + 1 + 1 + 1)) EF (by simp)
 exact bodyPost_ret (v := .tuple #[.agg #[.bool (ngB z), .slice A2 n2 c2, .int .i64 (T : Int)], .int .i64 er]) (by simp [results, Tryz.results10, go_sem, e0, e1', e2]) rfl ⟨A2, n2, c2, rfl, St.got EF (by simp), EF.out.bel⟩
theorem money_not (A A' : Option Addr) (n c n' c' s t : Nat) (i j : Int) (w : World) (h : Num w w.heap.size A n c i.natAbs) (h' : Num w w.heap.size A' n' c' j.natAbs) (hn : n ≤ 12) (hn' : n' ≤ 12) (hs : s ≤ 60) (ht : t ≤ 60) (hj : j ≤ 0) :
   Calls Tryz.prog 11 #[.agg #[.bool (ngB i), .slice A n c, .int .i64 (s : Int)], .agg #[.bool (ngB j), .slice A' n' c', .int .i64 (t : Int)]] w (RetDecY w 0 0 1) := by
 have HJ : Hid (decide (0 < j) = false) := decide_eq_false (by omega)
 obtain ⟨zs, hzs⟩ : ∃ zs, j.sign = zs := ⟨_, rfl⟩
 have hz0 : zs ≤ 0 := by
   rw [← hzs]
   rcases Int.lt_or_eq_of_le hj with h1 | h1
   · rw [Int.sign_eq_neg_one_of_neg h1]; decide
   · rw [h1]; decide
 have HZS := Lib.hid hzs
 have H := Lib.hid h
 have H' := Lib.hid h'
 clear h h' hj hzs
 go_enter Tryz.func11, Tryz.ntmps11
 go_wp2_with fail
 generalize hW : World.alloc (World.alloc (World.alloc w _) _) _ = W0
 have E0 : St w W0 [(A, n, c, (i).natAbs), (A', n', c', (j).natAbs)] [((w.heap.size + 1 + 1), .bool false, .slice none 0 0, .int .i64 0), ((w.heap.size + 1), (.bool (ngB j)), (.slice A' n' c'), (.int .i64 (t : Int))), (w.heap.size, (.bool (ngB i)), (.slice A n c), (.int .i64 (s : Int)))] := by rw [← hW]; exact (((start_two H.out H'.out).lay rfl).lay (by simp)).lay (by simp)
 have E := Lib.hid E0
 clear hW E0
 refine (isAbove_any A' n' c' t j _ (St.got E (A := A') (n := n') (c := c') (a := j.natAbs) (by simp))).mono ?_; rw [HJ.out]; rintro e w1 ⟨rfl, hb⟩; replace E := Lib.hid (St.step E.out hb); clear hb
 obtain ⟨r0, r1, r2, rf0, rf1, rf2, rlt⟩ := St.at_ (x0 := .bool false) (x1 := .slice none 0 0) (x2 := .int .i64 0) (g := (w.heap.size + 1 + 1)) E (by simp)
 go_wp2_with fail
 have EF := Lib.hid (St.store E.out (g := (w.heap.size + 1 + 1)) (x0 := .bool false) (x1 := .slice none 0 0) (x2 := .int .i64 0) (by simp) (noLimb_bool _) (noLimb_slice _ _ _) (noLimb_int _) [] (fun q hq => by cases hq) (.bool false) (.slice none 0 0) (.int .i64 0))
 obtain ⟨e0, e1, e2, _, _, _, _⟩ := St.at_ (x0 := .bool false) (x1 := .slice none 0 0) (x2 := .int .i64 0) (g := (w.heap.size + 1 + 1)) EF (by simp)
 exact bodyPost_ret (v := .tuple #[.agg #[.bool false, .slice none 0 0, .int .i64 0], .int .i64 1]) (by simp [results, Tryz.results11, go_sem, e0, e1, e2]) rfl ⟨none, 0, 0, rfl, num_none _ _, EF.out.bel⟩
theorem refmoney_not (A A' : Option Addr) (n c n' c' s t : Nat) (i j : Int) (w : World) (h : Num w w.heap.size A n c i.natAbs) (h' : Num w w.heap.size A' n' c' j.natAbs) (hn : n ≤ 12) (hn' : n' ≤ 12) (hs : s ≤ 60) (ht : t ≤ 60) (hj : j ≤ 0) :
   Calls Tryz.prog 12 #[.agg #[.bool (ngB i), .slice A n c, .int .i64 (s : Int)], .agg #[.bool (ngB j), .slice A' n' c', .int .i64 (t : Int)]] w (RetDecY w 0 0 1) := by
 have HJ : Hid (decide (0 < j) = false) := decide_eq_false (by omega)
 obtain ⟨zs, hzs⟩ : ∃ zs, j.sign = zs := ⟨_, rfl⟩
 have hz0 : zs ≤ 0 := by
   rw [← hzs]
   rcases Int.lt_or_eq_of_le hj with h1 | h1
   · rw [Int.sign_eq_neg_one_of_neg h1]; decide
   · rw [h1]; decide
 have HZS := Lib.hid hzs
 have H := Lib.hid h
 have H' := Lib.hid h'
 clear h h' hj hzs
 go_enter Tryz.func12, Tryz.ntmps12
 go_wp2_with fail
 generalize hW : World.alloc (World.alloc (World.alloc w _) _) _ = W0
 have E0 : St w W0 [(A, n, c, (i).natAbs), (A', n', c', (j).natAbs)] [((w.heap.size + 1 + 1), .bool false, .slice none 0 0, .int .i64 0), ((w.heap.size + 1), (.bool (ngB j)), (.slice A' n' c'), (.int .i64 (t : Int))), (w.heap.size, (.bool (ngB i)), (.slice A n c), (.int .i64 (s : Int)))] := by rw [← hW]; exact (((start_two H.out H'.out).lay rfl).lay (by simp)).lay (by simp)
 have E := Lib.hid E0
 clear hW E0
 refine (refSign_is (A := A') (n := n') (c := c') (s := t) (St.got E (A := A') (n := n') (c := c') (a := j.natAbs) (by simp)) HZS.out).mono ?_; rintro e w1 ⟨rfl, hb⟩; replace E := Lib.hid (St.step E.out hb); clear hb
 obtain ⟨r0, r1, r2, rf0, rf1, rf2, rlt⟩ := St.at_ (x0 := .bool false) (x1 := .slice none 0 0) (x2 := .int .i64 0) (g := (w.heap.size + 1 + 1)) E (by simp)
 go_wp2_with fail
 have EF := Lib.hid (St.store E.out (g := (w.heap.size + 1 + 1)) (x0 := .bool false) (x1 := .slice none 0 0) (x2 := .int .i64 0) (by simp) (noLimb_bool _) (noLimb_slice _ _ _) (noLimb_int _) [] (fun q hq => by cases hq) (.bool false) (.slice none 0 0) (.int .i64 0))
 obtain ⟨e0, e1, e2, _, _, _, _⟩ := St.at_ (x0 := .bool false) (x1 := .slice none 0 0) (x2 := .int .i64 0) (g := (w.heap.size + 1 + 1)) EF (by simp)
 exact bodyPost_ret (v := .tuple #[.agg #[.bool false, .slice none 0 0, .int .i64 0], .int .i64 1]) (by simp [results, Tryz.results12, go_sem, e0, e1, e2]) rfl ⟨none, 0, 0, rfl, num_none _ _, EF.out.bel⟩
theorem money_any (A A' : Option Addr) (n c n' c' s t : Nat) (i j : Int) (w : World) (h : Num w w.heap.size A n c i.natAbs) (h' : Num w w.heap.size A' n' c' j.natAbs) (hn : n ≤ 12) (hn' : n' ≤ 12) (hs : s ≤ 60) (ht : t ≤ 60) (hj : 0 < j) :
   Calls Tryz.prog 11 #[.agg #[.bool (ngB i), .slice A n c, .int .i64 (s : Int)], .agg #[.bool (ngB j), .slice A' n' c', .int .i64 (t : Int)]] w (RetDecY w (divZ i s j t 0 * j) t 0) := by
 have HJ : Hid (decide (0 < j) = true) := decide_eq_true hj
 have HJ0 : Hid (j ≠ 0) := by show _ ≠ _; omega
 obtain ⟨zs, hzs⟩ : ∃ zs, j.sign = zs := ⟨_, rfl⟩
 have hz0 : ¬ zs ≤ 0 := by
   rw [← hzs, Int.sign_eq_one_of_pos hj]; decide
 have HZS := Lib.hid hzs
 obtain ⟨q, hq⟩ : ∃ q, divZ i s j t 0 = q := ⟨_, rfl⟩
 obtain ⟨x, hx⟩ : ∃ x, q * j = x := ⟨_, rfl⟩
 have HQL : Hid ((dg q.natAbs).length ≤ 400) := by
   show _ ≤ _
   have zi : Sz i s 108 := Sz.of_len (by have := h.len; omega : (dg i.natAbs).length ≤ 12)
   have z := (zi.quot t 0 HJ0.out).len
   rw [hq] at z; omega
 rw [hq, hx]
 have HQ := Lib.hid hq
 have HX := Lib.hid hx
 have HT : Hid (0 + t = t) := Nat.zero_add t
 have HV : Hid (max (0 : Int) 0 = ((0 : Nat) : Int)) := rfl
 have H := Lib.hid h
 have H' := Lib.hid h'
 clear h h' hj hzs hq hx
 go_enter Tryz.func11, Tryz.ntmps11
 go_wp2_with fail
 generalize hW : World.alloc (World.alloc (World.alloc w _) _) _ = W0
 have E0 : St w W0 [(A, n, c, (i).natAbs), (A', n', c', (j).natAbs)] [((w.heap.size + 1 + 1), .bool false, .slice none 0 0, .int .i64 0), ((w.heap.size + 1), (.bool (ngB j)), (.slice A' n' c'), (.int .i64 (t : Int))), (w.heap.size, (.bool (ngB i)), (.slice A n c), (.int .i64 (s : Int)))] := by rw [← hW]; exact (((start_two H.out H'.out).lay rfl).lay (by simp)).lay (by simp)
 have E := Lib.hid E0
 clear hW E0
 refine (isAbove_any A' n' c' t j _ (St.got E (A := A') (n := n') (c := c') (a := j.natAbs) (by simp))).mono ?_; rw [HJ.out]; rintro e w1 ⟨rfl, hb⟩; replace E := Lib.hid (St.step E.out hb); clear hb
 obtain ⟨p0, p1, p2, pf0, pf1, pf2, plt⟩ := St.at_ (x0 := (.bool (ngB i))) (x1 := (.slice A n c)) (x2 := (.int .i64 (s : Int))) (g := w.heap.size) E (by simp)
 obtain ⟨q0, q1, q2, qf0, qf1, qf2, qlt⟩ := St.at_ (x0 := (.bool (ngB j))) (x1 := (.slice A' n' c')) (x2 := (.int .i64 (t : Int))) (g := (w.heap.size + 1)) E (by simp)
 go_wp2_with fail
 clear p0 p1 p2 pf0 pf1 pf2 plt
 clear q0 q1 q2 qf0 qf1 qf2 qlt
 refine (rdiv_is (i := i) (s := s) (j := j) (t := t) (S := 0) (St.got E (A := A) (n := n) (c := c) (a := i.natAbs) (by simp)) (St.got E (A := A') (n := n') (c := c') (a := j.natAbs) (by simp)) (by omega) (by omega) (by omega) (by omega) HV.out (by omega) HJ0.out HQ.out).mono ?_; rintro e w2 ⟨A2, n2, c2, rfl, h2, hb⟩
 have b2 : n2 ≤ 400 := len_le h2 HQL.out
 replace E := Lib.hid (St.push E.out hb h2)
 clear h2 hb
 obtain ⟨q0, q1, q2, qf0, qf1, qf2, qlt⟩ := St.at_ (x0 := (.bool (ngB j))) (x1 := (.slice A' n' c')) (x2 := (.int .i64 (t : Int))) (g := (w.heap.size + 1)) E (by simp)
 go_wp2_with fail
 replace E := Lib.hid (St.lay (t := 25) (x0 := .bool (ngB q)) (x1 := .slice A2 n2 c2) (x2 := .int .i64 ((0 : Nat) : Int)) (g := w2.heap.size) E.out rfl)
 clear q0 q1 q2 qf0 qf1 qf2 qlt
 refine (mul_is5 (i := q) (s := 0) (j := j) (t := t) (St.got E (A := A2) (n := n2) (c := c2) (a := q.natAbs) (by simp)) (St.got E (A := A') (n := n') (c := c') (a := j.natAbs) (by simp)) (by omega) (by omega) (by omega) (by omega) HT.out HX.out).mono ?_; rintro e w3 ⟨A3, n3, c3, rfl, h3, hb⟩
 replace E := Lib.hid (St.push E.out hb h3)
 clear h3 hb
 obtain ⟨r0, r1, r2, rf0, rf1, rf2, rlt⟩ := St.at_ (x0 := .bool false) (x1 := .slice none 0 0) (x2 := .int .i64 0) (g := (w.heap.size + 1 + 1)) E (by simp)
 go_wp2_with fail
 have EF := Lib.hid (St.store E.out (g := (w.heap.size + 1 + 1)) (x0 := .bool false) (x1 := .slice none 0 0) (x2 := .int .i64 0) (by simp) (noLimb_bool _) (noLimb_slice _ _ _) (noLimb_int _) [] (fun q hq => by cases hq) (.bool (ngB x)) (.slice A3 n3 c3) (.int .i64 (t : Int)))
 obtain ⟨e0, e1, e2, _, _, _, _⟩ := St.at_ (x0 := .bool (ngB x)) (x1 := .slice A3 n3 c3) (x2 := .int .i64 (t : Int)) (g := (w.heap.size + 1 + 1)) EF (by simp)
 exact bodyPost_ret (v := .tuple #[.agg #[.bool (ngB x), .slice A3 n3 c3, .int .i64 (t : Int)], .int .i64 0]) (by simp [results, Tryz.results11, go_sem, e0, e1, e2]) rfl ⟨A3, n3, c3, rfl, St.got EF (by simp), EF.out.bel⟩
theorem refmoney_any (A A' : Option Addr) (n c n' c' s t : Nat) (i j : Int) (w : World) (h : Num w w.heap.size A n c i.natAbs) (h' : Num w w.heap.size A' n' c' j.natAbs) (hn : n ≤ 12) (hn' : n' ≤ 12) (hs : s ≤ 60) (ht : t ≤ 60) (hj : 0 < j) :
   Calls Tryz.prog 12 #[.agg #[.bool (ngB i), .slice A n c, .int .i64 (s : Int)], .agg #[.bool (ngB j), .slice A' n' c', .int .i64 (t : Int)]] w (RetDecY w (divZ i s j t 0 * j) t 0) := by
 have HJ : Hid (decide (0 < j) = true) := decide_eq_true hj
 have HJ0 : Hid (j ≠ 0) := by show _ ≠ _; omega
 obtain ⟨zs, hzs⟩ : ∃ zs, j.sign = zs := ⟨_, rfl⟩
 have hz0 : ¬ zs ≤ 0 := by
   rw [← hzs, Int.sign_eq_one_of_pos hj]; decide
 have HZS := Lib.hid hzs
 obtain ⟨q, hq⟩ : ∃ q, divZ i s j t 0 = q := ⟨_, rfl⟩
 obtain ⟨x, hx⟩ : ∃ x, q * j = x := ⟨_, rfl⟩
 have HQL : Hid ((dg q.natAbs).length ≤ 400) := by
   show _ ≤ _
   have zi : Sz i s 108 := Sz.of_len (by have := h.len; omega : (dg i.natAbs).length ≤ 12)
   have z := (zi.quot t 0 HJ0.out).len
   rw [hq] at z; omega
 rw [hq, hx]
 have HQ := Lib.hid hq
 have HX := Lib.hid hx
 have HT : Hid (0 + t = t) := Nat.zero_add t
 have HV : Hid (max (0 : Int) 0 = ((0 : Nat) : Int)) := rfl
 have H := Lib.hid h
 have H' := Lib.hid h'
 clear h h' hj hzs hq hx
 go_enter Tryz.func12, Tryz.ntmps12
 go_wp2_with fail
 generalize hW : World.alloc (World.alloc (World.alloc w _) _) _ = W0
 have E0 : St w W0 [(A, n, c, (i).natAbs), (A', n', c', (j).natAbs)] [((w.heap.size + 1 + 1), .bool false, .slice none 0 0, .int .i64 0), ((w.heap.size + 1), (.bool (ngB j)), (.slice A' n' c'), (.int .i64 (t : Int))), (w.heap.size, (.bool (ngB i)), (.slice A n c), (.int .i64 (s : Int)))] := by rw [← hW]; exact (((start_two H.out H'.out).lay rfl).lay (by simp)).lay (by simp)
 have E := Lib.hid E0
 clear hW E0
 refine (refSign_is (A := A') (n := n') (c := c') (s := t) (St.got E (A := A') (n := n') (c := c') (a := j.natAbs) (by simp)) HZS.out).mono ?_; rintro e w1 ⟨rfl, hb⟩; replace E := Lib.hid (St.step E.out hb); clear hb
 obtain ⟨p0, p1, p2, pf0, pf1, pf2, plt⟩ := St.at_ (x0 := (.bool (ngB i))) (x1 := (.slice A n c)) (x2 := (.int .i64 (s : Int))) (g := w.heap.size) E (by simp)
 obtain ⟨q0, q1, q2, qf0, qf1, qf2, qlt⟩ := St.at_ (x0 := (.bool (ngB j))) (x1 := (.slice A' n' c')) (x2 := (.int .i64 (t : Int))) (g := (w.heap.size + 1)) E (by simp)
 go_wp2_with fail
 clear p0 p1 p2 pf0 pf1 pf2 plt
 clear q0 q1 q2 qf0 qf1 qf2 qlt
 refine (refdiv_is (i := i) (s := s) (j := j) (t := t) (S := 0) (St.got E (A := A) (n := n) (c := c) (a := i.natAbs) (by simp)) (St.got E (A := A') (n := n') (c := c') (a := j.natAbs) (by simp)) (by omega) (by omega) (by omega) (by omega) HV.out (by omega) HJ0.out HQ.out).mono ?_; rintro e w2 ⟨A2, n2, c2, rfl, h2, hb⟩
 have b2 : n2 ≤ 400 := len_le h2 HQL.out
 replace E := Lib.hid (St.push E.out hb h2)
 clear h2 hb
 obtain ⟨q0, q1, q2, qf0, qf1, qf2, qlt⟩ := St.at_ (x0 := (.bool (ngB j))) (x1 := (.slice A' n' c')) (x2 := (.int .i64 (t : Int))) (g := (w.heap.size + 1)) E (by simp)
 go_wp2_with fail
 replace E := Lib.hid (St.lay (t := 25) (x0 := .bool (ngB q)) (x1 := .slice A2 n2 c2) (x2 := .int .i64 ((0 : Nat) : Int)) (g := w2.heap.size) E.out rfl)
 clear q0 q1 q2 qf0 qf1 qf2 qlt
 refine (refmul_is5 (i := q) (s := 0) (j := j) (t := t) (St.got E (A := A2) (n := n2) (c := c2) (a := q.natAbs) (by simp)) (St.got E (A := A') (n := n') (c := c') (a := j.natAbs) (by simp)) (by omega) (by omega) (by omega) (by omega) HT.out HX.out).mono ?_; rintro e w3 ⟨A3, n3, c3, rfl, h3, hb⟩
 replace E := Lib.hid (St.push E.out hb h3)
 clear h3 hb
 obtain ⟨r0, r1, r2, rf0, rf1, rf2, rlt⟩ := St.at_ (x0 := .bool false) (x1 := .slice none 0 0) (x2 := .int .i64 0) (g := (w.heap.size + 1 + 1)) E (by simp)
 go_wp2_with fail
 have EF := Lib.hid (St.store E.out (g := (w.heap.size + 1 + 1)) (x0 := .bool false) (x1 := .slice none 0 0) (x2 := .int .i64 0) (by simp) (noLimb_bool _) (noLimb_slice _ _ _) (noLimb_int _) [] (fun q hq => by cases hq) (.bool (ngB x)) (.slice A3 n3 c3) (.int .i64 (t : Int)))
 obtain ⟨e0, e1, e2, _, _, _, _⟩ := St.at_ (x0 := .bool (ngB x)) (x1 := .slice A3 n3 c3) (x2 := .int .i64 (t : Int)) (g := (w.heap.size + 1 + 1)) EF (by simp)
 exact bodyPost_ret (v := .tuple #[.agg #[.bool (ngB x), .slice A3 n3 c3, .int .i64 (t : Int)], .int .i64 0]) (by simp [results, Tryz.results12, go_sem, e0, e1, e2]) rfl ⟨A3, n3, c3, rfl, St.got EF (by simp), EF.out.bel⟩
end Go.Proofs.YthlhpgphmfnlgaaGreat
