/-
  Contracts of layer 8, the sixth part: Weekday, MonthEnd, Months, Quarter, and the document's.
-/
import Derived.Test.YtnndamhilbcdfaaDoorDatE
set_option linter.unusedVariables false
set_option linter.unusedSimpArgs false
set_option linter.unusedVariables false
set_option linter.unusedSimpArgs false
set_option linter.unusedVariables false
set_option linter.unusedSimpArgs false
namespace Go.Proofs.YtnndamhilbcdfaaDoor
open Go.RowKit

theorem Bx.set0 {v : World} {g : Nat} {x0 x1 x2 : Value} (h : Bx v g x0 x1 x2) (u : Value) : Bx (v.setCell ⟨g, 0, none⟩ u) g u x1 x2 :=
  ⟨World.cell?_setCell_same _ _ _ h.c0, (World.cell?_setCell_other _ _ _ _ (by simp)).trans h.c1, (World.cell?_setCell_other _ _ _ _ (by simp)).trans h.c2, by rw [World.frozen?_setCell]; exact h.f0, by rw [World.frozen?_setCell]; exact h.f1, by rw [World.frozen?_setCell]; exact h.f2, by have := h.lt; simpa using this⟩
theorem S8.set0 {w0 w : World} {bs : List (Nat × Value × Value × Value)} {g : Nat} {x0 x1 x2 : Value} (h : S8 w0 w bs) (hm : (g, x0, x1, x2) ∈ bs) (bs' : List (Nat × Value × Value × Value)) (hs : ∀ q ∈ bs', q ∈ bs ∧ g ≠ q.1) (u : Value) (hT : ∀ w', Below w0.heap.size w0 w' → Tabs w') :
    S8 w0 (w.setCell ⟨g, 0, none⟩ u) ((g, u, x1, x2) :: bs') := by
  have X := (h.box _ hm)
  have hb := h.bel.setCell (p := ⟨g, 0, none⟩) X.2 u
  refine ⟨hb, hT _ hb, fun q hq => ?_⟩
  rcases List.mem_cons.1 hq with rfl | hq
  · exact ⟨X.1.set0 u, X.2⟩
  · exact ⟨(h.box q (hs q hq).1).1.far _ _ (hs q hq).2, (h.box q (hs q hq).1).2⟩

theorem Bx.set1 {v : World} {g : Nat} {x0 x1 x2 : Value} (h : Bx v g x0 x1 x2) (u : Value) : Bx (v.setCell ⟨g, 1, none⟩ u) g x0 u x2 :=
  ⟨(World.cell?_setCell_other _ _ _ _ (by simp)).trans h.c0, World.cell?_setCell_same _ _ _ h.c1, (World.cell?_setCell_other _ _ _ _ (by simp)).trans h.c2, by rw [World.frozen?_setCell]; exact h.f0, by rw [World.frozen?_setCell]; exact h.f1, by rw [World.frozen?_setCell]; exact h.f2, by have := h.lt; simpa using this⟩
theorem S8.set1 {w0 w : World} {bs : List (Nat × Value × Value × Value)} {g : Nat} {x0 x1 x2 : Value} (h : S8 w0 w bs) (hm : (g, x0, x1, x2) ∈ bs) (bs' : List (Nat × Value × Value × Value)) (hs : ∀ q ∈ bs', q ∈ bs ∧ g ≠ q.1) (u : Value) (hT : ∀ w', Below w0.heap.size w0 w' → Tabs w') :
    S8 w0 (w.setCell ⟨g, 1, none⟩ u) ((g, x0, u, x2) :: bs') := by
  have X := (h.box _ hm)
  have hb := h.bel.setCell (p := ⟨g, 1, none⟩) X.2 u
  refine ⟨hb, hT _ hb, fun q hq => ?_⟩
  rcases List.mem_cons.1 hq with rfl | hq
  · exact ⟨X.1.set1 u, X.2⟩
  · exact ⟨(h.box q (hs q hq).1).1.far _ _ (hs q hq).2, (h.box q (hs q hq).1).2⟩

theorem Bx.set2 {v : World} {g : Nat} {x0 x1 x2 : Value} (h : Bx v g x0 x1 x2) (u : Value) : Bx (v.setCell ⟨g, 2, none⟩ u) g x0 x1 u :=
  ⟨(World.cell?_setCell_other _ _ _ _ (by simp)).trans h.c0, (World.cell?_setCell_other _ _ _ _ (by simp)).trans h.c1, World.cell?_setCell_same _ _ _ h.c2, by rw [World.frozen?_setCell]; exact h.f0, by rw [World.frozen?_setCell]; exact h.f1, by rw [World.frozen?_setCell]; exact h.f2, by have := h.lt; simpa using this⟩
theorem S8.set2 {w0 w : World} {bs : List (Nat × Value × Value × Value)} {g : Nat} {x0 x1 x2 : Value} (h : S8 w0 w bs) (hm : (g, x0, x1, x2) ∈ bs) (bs' : List (Nat × Value × Value × Value)) (hs : ∀ q ∈ bs', q ∈ bs ∧ g ≠ q.1) (u : Value) (hT : ∀ w', Below w0.heap.size w0 w' → Tabs w') :
    S8 w0 (w.setCell ⟨g, 2, none⟩ u) ((g, x0, x1, u) :: bs') := by
  have X := (h.box _ hm)
  have hb := h.bel.setCell (p := ⟨g, 2, none⟩) X.2 u
  refine ⟨hb, hT _ hb, fun q hq => ?_⟩
  rcases List.mem_cons.1 hq with rfl | hq
  · exact ⟨X.1.set2 u, X.2⟩
  · exact ⟨(h.box q (hs q hq).1).1.far _ _ (hs q hq).2, (h.box q (hs q hq).1).2⟩

def wd8 (y m d : Int) : Int := if ok8 y m d = true then (num8 y m d - 1) % 7 + 1 else 0
def mo8 (y m : Int) : Int := (y - 1) * 12 + m - 1
def qu8 (y m d : Int) : Int := if ok8 y m d = true then (m - 1) / 3 + 1 else 0
def months8 (y m d y' m' d' : Int) : Int := if ok8 y m d = true then if ok8 y' m' d' = true then mo8 y' m' - mo8 y m else 0 else 0
def end8 (y m d : Int) : Int × Int × Int := if ok8 y m d = true then (y, m, len8 y m) else (0, 0, 0)
theorem wd8_ok {y m d : Int} (h : ok8 y m d = true) : wd8 y m d = (num8 y m d - 1) % 7 + 1 := if_pos h
theorem wd8_not {y m d : Int} (h : ok8 y m d = false) : wd8 y m d = 0 := if_neg (by rw [h]; simp)
theorem qu8_ok {y m d : Int} (h : ok8 y m d = true) : qu8 y m d = (m - 1) / 3 + 1 := if_pos h
theorem qu8_not {y m d : Int} (h : ok8 y m d = false) : qu8 y m d = 0 := if_neg (by rw [h]; simp)
theorem end8_ok {y m d : Int} (h : ok8 y m d = true) : end8 y m d = (y, m, len8 y m) := if_pos h
theorem end8_not {y m d : Int} (h : ok8 y m d = false) : end8 y m d = (0, 0, 0) := if_neg (by rw [h]; simp)
theorem months8_ok {y m d y' m' d' : Int} (h : ok8 y m d = true) (h' : ok8 y' m' d' = true) : months8 y m d y' m' d' = mo8 y' m' - mo8 y m := by unfold months8; rw [if_pos h, if_pos h']
theorem months8_not {y m d y' m' d' : Int} (h : ok8 y m d = false ∨ ok8 y' m' d' = false) : months8 y m d y' m' d' = 0 := by
  unfold months8
  rcases h with h | h
  · rw [if_neg (by rw [h]; simp)]
  · rw [h]; split <;> simp

set_option maxHeartbeats 4000000 in
set_option maxRecDepth 100000 in
theorem weekday_not (y m d : Int) (hr : ok8 y m d = false)  (w : World) (hT : Tabs w) : Calls Tryd.prog 29 #[.agg #[.int .i64 y, .int .i64 m, .int .i64 d]] w (Ret8 w (.int .i64 0)) := by
  have HT := Lib.hid hT
  clear hT
  have HD : Hid (days8 y m d = 0) := days8_not hr
  clear hr
  go_enter Tryd.func29, Tryd.ntmps29
  go_wp2_with fail
  generalize hW : World.alloc w _ = W0
  have E0 : S8 w W0 [(w.heap.size, .int .i64 y, .int .i64 m, .int .i64 d)] := by rw [← hW]; exact ((S8.start w HT.out).lay rfl)
  have E := Lib.hid E0
  clear hW E0
  obtain ⟨p0, p1, p2, pf0, pf1, pf2, plt⟩ := (S8.at_ (x0 := .int .i64 y) (x1 := .int .i64 m) (x2 := .int .i64 d) (g := w.heap.size) E (by simp))
  go_wp2_with fail
  refine (days_is E.out.tab HD.out).mono ?_; rintro e w1 ⟨rfl, hb⟩; replace E := Lib.hid (S8.step E.out hb); clear hb
  clear p0 p1 p2 pf0 pf1 pf2 plt
  go_wp2_with fail
  go_ret
  exact ⟨rfl, E.out.bel⟩

set_option maxHeartbeats 4000000 in
set_option maxRecDepth 100000 in
theorem weekday_yes (y m d : Int) (hr : ok8 y m d = true)  (w : World) (hT : Tabs w) : Calls Tryd.prog 29 #[.agg #[.int .i64 y, .int .i64 m, .int .i64 d]] w (Ret8 w (.int .i64 ((num8 y m d - 1) % 7 + 1))) := by
  have HT := Lib.hid hT
  clear hT
  obtain ⟨h1, h2, h3, h4, h5, h6⟩ := ok8_iff.1 hr
  have hnb := num8_bd hr
  have HR := Lib.hid hr
  have hl := len8_bd y m
  obtain ⟨n, hn⟩ : ∃ n, num8 y m d = n := ⟨_, rfl⟩
  rw [hn] at hnb ⊢
  obtain ⟨n1, n2⟩ := hnb
  have HD : Hid (days8 y m d = n) := (days8_ok hr).trans hn
  have HNE : (n == 0) = false := by simp; omega
  clear hr hn h1 h2 h3 h4 h5 h6 hl
  go_enter Tryd.func29, Tryd.ntmps29
  go_wp2_with fail
  generalize hW : World.alloc w _ = W0
  have E0 : S8 w W0 [(w.heap.size, .int .i64 y, .int .i64 m, .int .i64 d)] := by rw [← hW]; exact ((S8.start w HT.out).lay rfl)
  have E := Lib.hid E0
  clear hW E0
  obtain ⟨p0, p1, p2, pf0, pf1, pf2, plt⟩ := (S8.at_ (x0 := .int .i64 y) (x1 := .int .i64 m) (x2 := .int .i64 d) (g := w.heap.size) E (by simp))
  go_wp2_with fail
  refine (days_is E.out.tab HD.out).mono ?_; rintro e w1 ⟨rfl, hb⟩; replace E := Lib.hid (S8.step E.out hb); clear hb
  clear p0 p1 p2 pf0 pf1 pf2 plt
  go_wp2_with fail
  go_ret
  exact ⟨ri8 (by omega), E.out.bel⟩

theorem weekday_any (y m d : Int) (w : World) (hT : Tabs w) : Calls Tryd.prog 29 #[.agg #[.int .i64 y, .int .i64 m, .int .i64 d]] w (Ret8 w (.int .i64 (wd8 y m d))) := by
  cases hr : ok8 y m d with
  | false => rw [wd8_not hr]; exact weekday_not y m d hr w hT
  | true => rw [wd8_ok hr]; exact weekday_yes y m d hr w hT

set_option maxHeartbeats 4000000 in
set_option maxRecDepth 100000 in
theorem refweekday_not (y m d : Int) (hr : ok8 y m d = false)  (w : World) (hT : Tabs w) : Calls Tryd.prog 30 #[.agg #[.int .i64 y, .int .i64 m, .int .i64 d]] w (Ret8 w (.int .i64 0)) := by
  have HT := Lib.hid hT
  clear hT
  have HR := Lib.hid hr
  clear hr
  go_enter Tryd.func30, Tryd.ntmps30
  go_wp2_with fail
  generalize hW : World.alloc w _ = W0
  have E0 : S8 w W0 [(w.heap.size, .int .i64 y, .int .i64 m, .int .i64 d)] := by rw [← hW]; exact ((S8.start w HT.out).lay rfl)
  have E := Lib.hid E0
  clear hW E0
  obtain ⟨p0, p1, p2, pf0, pf1, pf2, plt⟩ := (S8.at_ (x0 := .int .i64 y) (x1 := .int .i64 m) (x2 := .int .i64 d) (g := w.heap.size) E (by simp))
  go_wp2_with fail
  refine (refright_any _ _ _ _ E.out.tab).mono ?_; rintro e w1 ⟨rfl, hb⟩; replace E := Lib.hid (S8.step E.out hb); clear hb
  rw [HR.out]
  clear p0 p1 p2 pf0 pf1 pf2 plt
  go_wp2_with fail
  go_ret
  exact ⟨rfl, E.out.bel⟩

set_option maxHeartbeats 4000000 in
set_option maxRecDepth 100000 in
theorem refweekday_yes (y m d : Int) (hr : ok8 y m d = true)  (w : World) (hT : Tabs w) : Calls Tryd.prog 30 #[.agg #[.int .i64 y, .int .i64 m, .int .i64 d]] w (Ret8 w (.int .i64 ((num8 y m d - 1) % 7 + 1))) := by
  have HT := Lib.hid hT
  clear hT
  obtain ⟨h1, h2, h3, h4, h5, h6⟩ := ok8_iff.1 hr
  have hnb := num8_bd hr
  have HR := Lib.hid hr
  have hl := len8_bd y m
  obtain ⟨n, hn⟩ : ∃ n, num8 y m d = n := ⟨_, rfl⟩
  rw [hn] at hnb ⊢
  obtain ⟨n1, n2⟩ := hnb
  have HD : Hid (days8 y m d = n) := (days8_ok hr).trans hn
  have HNE : (n == 0) = false := by simp; omega
  clear hr hn h1 h2 h3 h4 h5 h6 hl
  go_enter Tryd.func30, Tryd.ntmps30
  go_wp2_with fail
  generalize hW : World.alloc w _ = W0
  have E0 : S8 w W0 [(w.heap.size, .int .i64 y, .int .i64 m, .int .i64 d)] := by rw [← hW]; exact ((S8.start w HT.out).lay rfl)
  have E := Lib.hid E0
  clear hW E0
  obtain ⟨p0, p1, p2, pf0, pf1, pf2, plt⟩ := (S8.at_ (x0 := .int .i64 y) (x1 := .int .i64 m) (x2 := .int .i64 d) (g := w.heap.size) E (by simp))
  go_wp2_with fail
  refine (refright_any _ _ _ _ E.out.tab).mono ?_; rintro e w1 ⟨rfl, hb⟩; replace E := Lib.hid (S8.step E.out hb); clear hb
  rw [HR.out]
  clear p0 p1 p2 pf0 pf1 pf2 plt
  obtain ⟨p0, p1, p2, pf0, pf1, pf2, plt⟩ := (S8.at_ (x0 := .int .i64 y) (x1 := .int .i64 m) (x2 := .int .i64 d) (g := w.heap.size) E (by simp))
  go_wp2_with fail
  refine (refdays_is E.out.tab HD.out).mono ?_; rintro e w2 ⟨rfl, hb⟩; replace E := Lib.hid (S8.step E.out hb); clear hb
  clear p0 p1 p2 pf0 pf1 pf2 plt
  go_wp2_with fail
  go_ret
  exact ⟨ri8 (by omega), E.out.bel⟩

theorem refweekday_any (y m d : Int) (w : World) (hT : Tabs w) : Calls Tryd.prog 30 #[.agg #[.int .i64 y, .int .i64 m, .int .i64 d]] w (Ret8 w (.int .i64 (wd8 y m d))) := by
  cases hr : ok8 y m d with
  | false => rw [wd8_not hr]; exact refweekday_not y m d hr w hT
  | true => rw [wd8_ok hr]; exact refweekday_yes y m d hr w hT

set_option maxHeartbeats 4000000 in
set_option maxRecDepth 100000 in
theorem quarter_not (y m d : Int) (hr : ok8 y m d = false)  (w : World) (hT : Tabs w) : Calls Tryd.prog 35 #[.agg #[.int .i64 y, .int .i64 m, .int .i64 d]] w (Ret8 w (.int .i64 0)) := by
  have HT := Lib.hid hT
  clear hT
  have HR := Lib.hid hr
  clear hr
  go_enter Tryd.func35, Tryd.ntmps35
  go_wp2_with fail
  generalize hW : World.alloc w _ = W0
  have E0 : S8 w W0 [(w.heap.size, .int .i64 y, .int .i64 m, .int .i64 d)] := by rw [← hW]; exact ((S8.start w HT.out).lay rfl)
  have E := Lib.hid E0
  clear hW E0
  obtain ⟨p0, p1, p2, pf0, pf1, pf2, plt⟩ := (S8.at_ (x0 := .int .i64 y) (x1 := .int .i64 m) (x2 := .int .i64 d) (g := w.heap.size) E (by simp))
  go_wp2_with fail
  refine (right_any _ _ _ _ E.out.tab).mono ?_; rintro e w1 ⟨rfl, hb⟩; replace E := Lib.hid (S8.step E.out hb); clear hb
  rw [HR.out]
  clear p0 p1 p2 pf0 pf1 pf2 plt
  go_wp2_with fail
  go_ret
  exact ⟨rfl, E.out.bel⟩

set_option maxHeartbeats 4000000 in
set_option maxRecDepth 100000 in
theorem quarter_yes (y m d : Int) (hr : ok8 y m d = true)  (w : World) (hT : Tabs w) : Calls Tryd.prog 35 #[.agg #[.int .i64 y, .int .i64 m, .int .i64 d]] w (Ret8 w (.int .i64 ((m - 1) / 3 + 1))) := by
  have HT := Lib.hid hT
  clear hT
  obtain ⟨h1, h2, h3, h4, h5, h6⟩ := ok8_iff.1 hr
  have hnb := num8_bd hr
  have HR := Lib.hid hr
  have hl := len8_bd y m
  clear hr h1 h2 h5 h6 hl hnb
  go_enter Tryd.func35, Tryd.ntmps35
  go_wp2_with fail
  generalize hW : World.alloc w _ = W0
  have E0 : S8 w W0 [(w.heap.size, .int .i64 y, .int .i64 m, .int .i64 d)] := by rw [← hW]; exact ((S8.start w HT.out).lay rfl)
  have E := Lib.hid E0
  clear hW E0
  obtain ⟨p0, p1, p2, pf0, pf1, pf2, plt⟩ := (S8.at_ (x0 := .int .i64 y) (x1 := .int .i64 m) (x2 := .int .i64 d) (g := w.heap.size) E (by simp))
  go_wp2_with fail
  refine (right_any _ _ _ _ E.out.tab).mono ?_; rintro e w1 ⟨rfl, hb⟩; replace E := Lib.hid (S8.step E.out hb); clear hb
  rw [HR.out]
  clear p0 p1 p2 pf0 pf1 pf2 plt
  obtain ⟨p0, p1, p2, pf0, pf1, pf2, plt⟩ := (S8.at_ (x0 := .int .i64 y) (x1 := .int .i64 m) (x2 := .int .i64 d) (g := w.heap.size) E (by simp))
  go_wp2_with fail
  go_ret
  exact ⟨ri8 (by omega), E.out.bel⟩

theorem quarter_any (y m d : Int) (w : World) (hT : Tabs w) : Calls Tryd.prog 35 #[.agg #[.int .i64 y, .int .i64 m, .int .i64 d]] w (Ret8 w (.int .i64 (qu8 y m d))) := by
  cases hr : ok8 y m d with
  | false => rw [qu8_not hr]; exact quarter_not y m d hr w hT
  | true => rw [qu8_ok hr]; exact quarter_yes y m d hr w hT

set_option maxHeartbeats 4000000 in
set_option maxRecDepth 100000 in
theorem refquarter_not (y m d : Int) (hr : ok8 y m d = false)  (w : World) (hT : Tabs w) : Calls Tryd.prog 36 #[.agg #[.int .i64 y, .int .i64 m, .int .i64 d]] w (Ret8 w (.int .i64 0)) := by
  have HT := Lib.hid hT
  clear hT
  have HR := Lib.hid hr
  clear hr
  go_enter Tryd.func36, Tryd.ntmps36
  go_wp2_with fail
  generalize hW : World.alloc w _ = W0
  have E0 : S8 w W0 [(w.heap.size, .int .i64 y, .int .i64 m, .int .i64 d)] := by rw [← hW]; exact ((S8.start w HT.out).lay rfl)
  have E := Lib.hid E0
  clear hW E0
  obtain ⟨p0, p1, p2, pf0, pf1, pf2, plt⟩ := (S8.at_ (x0 := .int .i64 y) (x1 := .int .i64 m) (x2 := .int .i64 d) (g := w.heap.size) E (by simp))
  go_wp2_with fail
  refine (refright_any _ _ _ _ E.out.tab).mono ?_; rintro e w1 ⟨rfl, hb⟩; replace E := Lib.hid (S8.step E.out hb); clear hb
  rw [HR.out]
  clear p0 p1 p2 pf0 pf1 pf2 plt
  go_wp2_with fail
  go_ret
  exact ⟨rfl, E.out.bel⟩

set_option maxHeartbeats 4000000 in
set_option maxRecDepth 100000 in
theorem refquarter_yes (y m d : Int) (hr : ok8 y m d = true)  (w : World) (hT : Tabs w) : Calls Tryd.prog 36 #[.agg #[.int .i64 y, .int .i64 m, .int .i64 d]] w (Ret8 w (.int .i64 ((m - 1) / 3 + 1))) := by
  have HT := Lib.hid hT
  clear hT
  obtain ⟨h1, h2, h3, h4, h5, h6⟩ := ok8_iff.1 hr
  have hnb := num8_bd hr
  have HR := Lib.hid hr
  have hl := len8_bd y m
  clear hr h1 h2 h5 h6 hl hnb
  go_enter Tryd.func36, Tryd.ntmps36
  go_wp2_with fail
  generalize hW : World.alloc w _ = W0
  have E0 : S8 w W0 [(w.heap.size, .int .i64 y, .int .i64 m, .int .i64 d)] := by rw [← hW]; exact ((S8.start w HT.out).lay rfl)
  have E := Lib.hid E0
  clear hW E0
  obtain ⟨p0, p1, p2, pf0, pf1, pf2, plt⟩ := (S8.at_ (x0 := .int .i64 y) (x1 := .int .i64 m) (x2 := .int .i64 d) (g := w.heap.size) E (by simp))
  go_wp2_with fail
  refine (refright_any _ _ _ _ E.out.tab).mono ?_; rintro e w1 ⟨rfl, hb⟩; replace E := Lib.hid (S8.step E.out hb); clear hb
  rw [HR.out]
  clear p0 p1 p2 pf0 pf1 pf2 plt
  obtain ⟨p0, p1, p2, pf0, pf1, pf2, plt⟩ := (S8.at_ (x0 := .int .i64 y) (x1 := .int .i64 m) (x2 := .int .i64 d) (g := w.heap.size) E (by simp))
  go_wp2_with fail
  go_ret
  exact ⟨ri8 (by omega), E.out.bel⟩

theorem refquarter_any (y m d : Int) (w : World) (hT : Tabs w) : Calls Tryd.prog 36 #[.agg #[.int .i64 y, .int .i64 m, .int .i64 d]] w (Ret8 w (.int .i64 (qu8 y m d))) := by
  cases hr : ok8 y m d with
  | false => rw [qu8_not hr]; exact refquarter_not y m d hr w hT
  | true => rw [qu8_ok hr]; exact refquarter_yes y m d hr w hT

set_option maxHeartbeats 4000000 in
set_option maxRecDepth 100000 in
theorem monthEnd_not (y m d : Int) (hr : ok8 y m d = false)  (w : World) (hT : Tabs w) : Calls Tryd.prog 31 #[.agg #[.int .i64 y, .int .i64 m, .int .i64 d]] w (Ret8 w (.agg #[.int .i64 (0), .int .i64 (0), .int .i64 (0)])) := by
  have HT := Lib.hid hT
  clear hT
  have HR := Lib.hid hr
  clear hr
  go_enter Tryd.func31, Tryd.ntmps31
  go_wp2_with fail
  generalize hW : World.alloc (World.alloc w _) _ = W0
  have E0 : S8 w W0 [(w.heap.size + 1, .int .i64 (0), .int .i64 (0), .int .i64 (0)), (w.heap.size, .int .i64 y, .int .i64 m, .int .i64 d)] := by rw [← hW]; exact (((S8.start w HT.out).lay rfl).lay (by simp))
  have E := Lib.hid E0
  clear hW E0
  obtain ⟨p0, p1, p2, pf0, pf1, pf2, plt⟩ := (S8.at_ (x0 := .int .i64 (0)) (x1 := .int .i64 (0)) (x2 := .int .i64 (0)) (g := w.heap.size + 1) E (by simp))
  obtain ⟨q0, q1, q2, qf0, qf1, qf2, qlt⟩ := (S8.at_ (x0 := .int .i64 y) (x1 := .int .i64 m) (x2 := .int .i64 d) (g := w.heap.size) E (by simp))
  go_wp2_with fail
  refine (right_any _ _ _ _ E.out.tab).mono ?_; rintro e w1 ⟨rfl, hb⟩; replace E := Lib.hid (S8.step E.out hb); clear hb
  rw [HR.out]
  clear p0 p1 p2 pf0 pf1 pf2 plt q0 q1 q2 qf0 qf1 qf2 qlt
  obtain ⟨p0, p1, p2, pf0, pf1, pf2, plt⟩ := (S8.at_ (x0 := .int .i64 (0)) (x1 := .int .i64 (0)) (x2 := .int .i64 (0)) (g := w.heap.size + 1) E (by simp))
  obtain ⟨q0, q1, q2, qf0, qf1, qf2, qlt⟩ := (S8.at_ (x0 := .int .i64 y) (x1 := .int .i64 m) (x2 := .int .i64 d) (g := w.heap.size) E (by simp))
  go_wp2_with fail
  clear p0 p1 p2 pf0 pf1 pf2 plt q0 q1 q2 qf0 qf1 qf2 qlt
  replace E := Lib.hid (S8.store E.out (g := w.heap.size + 1) (x0 := .int .i64 (0)) (x1 := .int .i64 (0)) (x2 := .int .i64 (0)) (by simp) (by omega) [(w.heap.size, .int .i64 y, .int .i64 m, .int .i64 d)] (fun q hq => by simp at hq ⊢; (try rcases hq with rfl <;> simp)) (.int .i64 (0)) (.int .i64 (0)) (.int .i64 (0)) (fun w_ hb => HT.out.on hb))
  obtain ⟨e0, e1, e2, _, _, _, _⟩ := (S8.at_ (x0 := .int .i64 (0)) (x1 := .int .i64 (0)) (x2 := .int .i64 (0)) (g := w.heap.size + 1) E (by simp))
  exact bodyPost_ret (v := .agg #[.int .i64 (0), .int .i64 (0), .int .i64 (0)]) (by simp [results, Tryd.results31, go_sem, e0, e1, e2]) rfl ⟨rfl, E.out.bel⟩

set_option maxHeartbeats 4000000 in
set_option maxRecDepth 100000 in
theorem monthEnd_yes (y m d : Int) (hr : ok8 y m d = true)  (w : World) (hT : Tabs w) : Calls Tryd.prog 31 #[.agg #[.int .i64 y, .int .i64 m, .int .i64 d]] w (Ret8 w (.agg #[.int .i64 y, .int .i64 m, .int .i64 ((len8 y m))])) := by
  have HT := Lib.hid hT
  clear hT
  obtain ⟨h1, h2, h3, h4, h5, h6⟩ := ok8_iff.1 hr
  have hnb := num8_bd hr
  have HR := Lib.hid hr
  have hl := len8_bd y m
  clear hr h1 h2 h5 h6 hl hnb
  go_enter Tryd.func31, Tryd.ntmps31
  go_wp2_with fail
  generalize hW : World.alloc (World.alloc w _) _ = W0
  have E0 : S8 w W0 [(w.heap.size + 1, .int .i64 (0), .int .i64 (0), .int .i64 (0)), (w.heap.size, .int .i64 y, .int .i64 m, .int .i64 d)] := by rw [← hW]; exact (((S8.start w HT.out).lay rfl).lay (by simp))
  have E := Lib.hid E0
  clear hW E0
  obtain ⟨p0, p1, p2, pf0, pf1, pf2, plt⟩ := (S8.at_ (x0 := .int .i64 (0)) (x1 := .int .i64 (0)) (x2 := .int .i64 (0)) (g := w.heap.size + 1) E (by simp))
  obtain ⟨q0, q1, q2, qf0, qf1, qf2, qlt⟩ := (S8.at_ (x0 := .int .i64 y) (x1 := .int .i64 m) (x2 := .int .i64 d) (g := w.heap.size) E (by simp))
  go_wp2_with fail
  refine (right_any _ _ _ _ E.out.tab).mono ?_; rintro e w1 ⟨rfl, hb⟩; replace E := Lib.hid (S8.step E.out hb); clear hb
  rw [HR.out]
  clear p0 p1 p2 pf0 pf1 pf2 plt q0 q1 q2 qf0 qf1 qf2 qlt
  obtain ⟨p0, p1, p2, pf0, pf1, pf2, plt⟩ := (S8.at_ (x0 := .int .i64 (0)) (x1 := .int .i64 (0)) (x2 := .int .i64 (0)) (g := w.heap.size + 1) E (by simp))
  obtain ⟨q0, q1, q2, qf0, qf1, qf2, qlt⟩ := (S8.at_ (x0 := .int .i64 y) (x1 := .int .i64 m) (x2 := .int .i64 d) (g := w.heap.size) E (by simp))
  go_wp2_with fail
  refine (length_any _ _ _ E.out.tab h3 h4).mono ?_; rintro e w_ ⟨rfl, rfl⟩
  go_wp2_with fail
  clear p0 p1 p2 pf0 pf1 pf2 plt q0 q1 q2 qf0 qf1 qf2 qlt
  replace E := Lib.hid (S8.set2 E.out (g := w.heap.size) (x0 := .int .i64 y) (x1 := .int .i64 m) (x2 := .int .i64 d) (by simp) [(w.heap.size + 1, .int .i64 (0), .int .i64 (0), .int .i64 (0))] (fun q hq => by simp at hq ⊢; (try rcases hq with rfl <;> simp)) (.int .i64 ((len8 y m))) (fun w_ hb => HT.out.on hb))
  replace E := Lib.hid (S8.store E.out (g := w.heap.size + 1) (x0 := .int .i64 (0)) (x1 := .int .i64 (0)) (x2 := .int .i64 (0)) (by simp) (by omega) [(w.heap.size, .int .i64 y, .int .i64 m, .int .i64 ((len8 y m)))] (fun q hq => by simp at hq ⊢; (try rcases hq with rfl <;> simp)) (.int .i64 y) (.int .i64 m) (.int .i64 ((len8 y m))) (fun w_ hb => HT.out.on hb))
  obtain ⟨e0, e1, e2, _, _, _, _⟩ := (S8.at_ (x0 := .int .i64 y) (x1 := .int .i64 m) (x2 := .int .i64 ((len8 y m))) (g := w.heap.size + 1) E (by simp))
  exact bodyPost_ret (v := .agg #[.int .i64 y, .int .i64 m, .int .i64 ((len8 y m))]) (by simp [results, Tryd.results31, go_sem, e0, e1, e2]) rfl ⟨rfl, E.out.bel⟩

theorem monthEnd_any (y m d : Int) (w : World) (hT : Tabs w) : Calls Tryd.prog 31 #[.agg #[.int .i64 y, .int .i64 m, .int .i64 d]] w (Ret8 w (.agg #[.int .i64 (end8 y m d).1, .int .i64 (end8 y m d).2.1, .int .i64 (end8 y m d).2.2])) := by
  cases hr : ok8 y m d with
  | false => rw [end8_not hr]; exact monthEnd_not y m d hr w hT
  | true => rw [end8_ok hr]; exact monthEnd_yes y m d hr w hT

set_option maxHeartbeats 4000000 in
set_option maxRecDepth 100000 in
theorem refMonthEnd_not (y m d : Int) (hr : ok8 y m d = false)  (w : World) (hT : Tabs w) : Calls Tryd.prog 32 #[.agg #[.int .i64 y, .int .i64 m, .int .i64 d]] w (Ret8 w (.agg #[.int .i64 (0), .int .i64 (0), .int .i64 (0)])) := by
  have HT := Lib.hid hT
  clear hT
  have HR := Lib.hid hr
  clear hr
  go_enter Tryd.func32, Tryd.ntmps32
  go_wp2_with fail
  generalize hW : World.alloc (World.alloc w _) _ = W0
  have E0 : S8 w W0 [(w.heap.size + 1, .int .i64 (0), .int .i64 (0), .int .i64 (0)), (w.heap.size, .int .i64 y, .int .i64 m, .int .i64 d)] := by rw [← hW]; exact (((S8.start w HT.out).lay rfl).lay (by simp))
  have E := Lib.hid E0
  clear hW E0
  obtain ⟨p0, p1, p2, pf0, pf1, pf2, plt⟩ := (S8.at_ (x0 := .int .i64 (0)) (x1 := .int .i64 (0)) (x2 := .int .i64 (0)) (g := w.heap.size + 1) E (by simp))
  obtain ⟨q0, q1, q2, qf0, qf1, qf2, qlt⟩ := (S8.at_ (x0 := .int .i64 y) (x1 := .int .i64 m) (x2 := .int .i64 d) (g := w.heap.size) E (by simp))
  go_wp2_with fail
  refine (refright_any _ _ _ _ E.out.tab).mono ?_; rintro e w1 ⟨rfl, hb⟩; replace E := Lib.hid (S8.step E.out hb); clear hb
  rw [HR.out]
  clear p0 p1 p2 pf0 pf1 pf2 plt q0 q1 q2 qf0 qf1 qf2 qlt
  obtain ⟨p0, p1, p2, pf0, pf1, pf2, plt⟩ := (S8.at_ (x0 := .int .i64 (0)) (x1 := .int .i64 (0)) (x2 := .int .i64 (0)) (g := w.heap.size + 1) E (by simp))
  obtain ⟨q0, q1, q2, qf0, qf1, qf2, qlt⟩ := (S8.at_ (x0 := .int .i64 y) (x1 := .int .i64 m) (x2 := .int .i64 d) (g := w.heap.size) E (by simp))
  go_wp2_with fail
  clear p0 p1 p2 pf0 pf1 pf2 plt q0 q1 q2 qf0 qf1 qf2 qlt
  replace E := Lib.hid (S8.store E.out (g := w.heap.size + 1) (x0 := .int .i64 (0)) (x1 := .int .i64 (0)) (x2 := .int .i64 (0)) (by simp) (by omega) [(w.heap.size, .int .i64 y, .int .i64 m, .int .i64 d)] (fun q hq => by simp at hq ⊢; (try rcases hq with rfl <;> simp)) (.int .i64 (0)) (.int .i64 (0)) (.int .i64 (0)) (fun w_ hb => HT.out.on hb))
  obtain ⟨e0, e1, e2, _, _, _, _⟩ := (S8.at_ (x0 := .int .i64 (0)) (x1 := .int .i64 (0)) (x2 := .int .i64 (0)) (g := w.heap.size + 1) E (by simp))
  exact bodyPost_ret (v := .agg #[.int .i64 (0), .int .i64 (0), .int .i64 (0)]) (by simp [results, Tryd.results32, go_sem, e0, e1, e2]) rfl ⟨rfl, E.out.bel⟩

set_option maxHeartbeats 4000000 in
set_option maxRecDepth 100000 in
theorem refMonthEnd_yes (y m d : Int) (hr : ok8 y m d = true)  (w : World) (hT : Tabs w) : Calls Tryd.prog 32 #[.agg #[.int .i64 y, .int .i64 m, .int .i64 d]] w (Ret8 w (.agg #[.int .i64 y, .int .i64 m, .int .i64 ((len8 y m))])) := by
  have HT := Lib.hid hT
  clear hT
  obtain ⟨h1, h2, h3, h4, h5, h6⟩ := ok8_iff.1 hr
  have hnb := num8_bd hr
  have HR := Lib.hid hr
  have hl := len8_bd y m
  clear hr h1 h2 h5 h6 hl hnb
  go_enter Tryd.func32, Tryd.ntmps32
  go_wp2_with fail
  generalize hW : World.alloc (World.alloc w _) _ = W0
  have E0 : S8 w W0 [(w.heap.size + 1, .int .i64 (0), .int .i64 (0), .int .i64 (0)), (w.heap.size, .int .i64 y, .int .i64 m, .int .i64 d)] := by rw [← hW]; exact (((S8.start w HT.out).lay rfl).lay (by simp))
  have E := Lib.hid E0
  clear hW E0
  obtain ⟨p0, p1, p2, pf0, pf1, pf2, plt⟩ := (S8.at_ (x0 := .int .i64 (0)) (x1 := .int .i64 (0)) (x2 := .int .i64 (0)) (g := w.heap.size + 1) E (by simp))
  obtain ⟨q0, q1, q2, qf0, qf1, qf2, qlt⟩ := (S8.at_ (x0 := .int .i64 y) (x1 := .int .i64 m) (x2 := .int .i64 d) (g := w.heap.size) E (by simp))
  go_wp2_with fail
  refine (refright_any _ _ _ _ E.out.tab).mono ?_; rintro e w1 ⟨rfl, hb⟩; replace E := Lib.hid (S8.step E.out hb); clear hb
  rw [HR.out]
  clear p0 p1 p2 pf0 pf1 pf2 plt q0 q1 q2 qf0 qf1 qf2 qlt
  obtain ⟨p0, p1, p2, pf0, pf1, pf2, plt⟩ := (S8.at_ (x0 := .int .i64 (0)) (x1 := .int .i64 (0)) (x2 := .int .i64 (0)) (g := w.heap.size + 1) E (by simp))
  obtain ⟨q0, q1, q2, qf0, qf1, qf2, qlt⟩ := (S8.at_ (x0 := .int .i64 y) (x1 := .int .i64 m) (x2 := .int .i64 d) (g := w.heap.size) E (by simp))
  go_wp2_with fail
  refine (reflong_any _ _ _ h3 h4).mono ?_; rintro e w2 ⟨rfl, hb⟩; replace E := Lib.hid (S8.step E.out hb); clear hb
  clear p0 p1 p2 pf0 pf1 pf2 plt q0 q1 q2 qf0 qf1 qf2 qlt
  obtain ⟨p0, p1, p2, pf0, pf1, pf2, plt⟩ := (S8.at_ (x0 := .int .i64 (0)) (x1 := .int .i64 (0)) (x2 := .int .i64 (0)) (g := w.heap.size + 1) E (by simp))
  obtain ⟨q0, q1, q2, qf0, qf1, qf2, qlt⟩ := (S8.at_ (x0 := .int .i64 y) (x1 := .int .i64 m) (x2 := .int .i64 d) (g := w.heap.size) E (by simp))
  go_wp2_with fail
  clear p0 p1 p2 pf0 pf1 pf2 plt q0 q1 q2 qf0 qf1 qf2 qlt
  replace E := Lib.hid (S8.set2 E.out (g := w.heap.size) (x0 := .int .i64 y) (x1 := .int .i64 m) (x2 := .int .i64 d) (by simp) [(w.heap.size + 1, .int .i64 (0), .int .i64 (0), .int .i64 (0))] (fun q hq => by simp at hq ⊢; (try rcases hq with rfl <;> simp)) (.int .i64 ((len8 y m))) (fun w_ hb => HT.out.on hb))
  replace E := Lib.hid (S8.store E.out (g := w.heap.size + 1) (x0 := .int .i64 (0)) (x1 := .int .i64 (0)) (x2 := .int .i64 (0)) (by simp) (by omega) [(w.heap.size, .int .i64 y, .int .i64 m, .int .i64 ((len8 y m)))] (fun q hq => by simp at hq ⊢; (try rcases hq with rfl <;> simp)) (.int .i64 y) (.int .i64 m) (.int .i64 ((len8 y m))) (fun w_ hb => HT.out.on hb))
  obtain ⟨e0, e1, e2, _, _, _, _⟩ := (S8.at_ (x0 := .int .i64 y) (x1 := .int .i64 m) (x2 := .int .i64 ((len8 y m))) (g := w.heap.size + 1) E (by simp))
  exact bodyPost_ret (v := .agg #[.int .i64 y, .int .i64 m, .int .i64 ((len8 y m))]) (by simp [results, Tryd.results32, go_sem, e0, e1, e2]) rfl ⟨rfl, E.out.bel⟩

theorem refMonthEnd_any (y m d : Int) (w : World) (hT : Tabs w) : Calls Tryd.prog 32 #[.agg #[.int .i64 y, .int .i64 m, .int .i64 d]] w (Ret8 w (.agg #[.int .i64 (end8 y m d).1, .int .i64 (end8 y m d).2.1, .int .i64 (end8 y m d).2.2])) := by
  cases hr : ok8 y m d with
  | false => rw [end8_not hr]; exact refMonthEnd_not y m d hr w hT
  | true => rw [end8_ok hr]; exact refMonthEnd_yes y m d hr w hT

end Go.Proofs.YtnndamhilbcdfaaDoor
