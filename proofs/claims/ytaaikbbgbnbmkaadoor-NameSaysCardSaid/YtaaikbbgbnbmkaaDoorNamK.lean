/-
  Contracts of layer 11: the document's Common.
-/
import Derived.Test.YtaaikbbgbnbmkaaDoorNamJ
set_option linter.unusedVariables false
set_option linter.unusedSimpArgs false
namespace Go.Proofs.YtaaikbbgbnbmkaaDoor
open Go.RowKit

theorem jnc_take (l : List Nat) (i : Nat) : (jnc ((prt l).take i)).length ≤ l.length := by
  obtain ⟨r, hr⟩ := und_pre (und_parts (s := l) (p := (prt l).take i) ⟨_, (List.take_append_drop i _).symm⟩)
  conv => rhs; rw [hr]
  rw [List.length_append]; omega
theorem jnc_next {L : List (List Nat)} {i : Nat} {t : List Nat} (h : L[i]? = some t) : (i = 0 → jnc (L.take (i + 1)) = t) ∧ (0 < i → jnc (L.take (i + 1)) = (jnc (L.take i) ++ [58]) ++ t) := by
  have hl := (List.getElem?_eq_some_iff.1 h).1
  rw [List.take_add_one, h]
  constructor
  · rintro rfl; rfl
  · intro hi
    show jnc (L.take i ++ [t]) = _
    rw [jnc_app (fun e => by have := congrArg List.length e; rw [List.length_take, List.length_nil] at this; omega) (List.cons_ne_nil _ _), jnc_one]
    simp

set_option maxHeartbeats 4000000 in
set_option maxRecDepth 100000 in
theorem refcommon_is {a b X : ByteArray} (h : com (bs9 a) (bs9 b) = bs9 X) (ha : a.size ≤ 1000000) (hb : b.size ≤ 1000000) (w : World) : Calls Tryd.prog 31 #[.string a, .string b] w (Ret9 w (.string X)) := by
  have H := Lib.hid h
  clear h
  obtain ⟨n, hn⟩ : ∃ n, (prt (bs9 a)).length = n := ⟨_, rfl⟩
  obtain ⟨m, hm⟩ : ∃ m, (prt (bs9 b)).length = m := ⟨_, rfl⟩
  have HN := Lib.hid hn
  have HM := Lib.hid hm
  clear hn hm
  go_enter Tryd.func31, Tryd.ntmps31
  go_wp2_with fail
  refine (refparts_any a _ ha).mono ?_; rintro e w1 ⟨A, c, rfl, h1, hb1⟩
  rw [HN.out] at h1 ⊢
  have R1 := Lib.hid h1
  have HB := Lib.hid hb1
  clear h1 hb1
  go_wp2_with fail
  refine (refparts_any b _ hb).mono ?_; rintro e w2 ⟨B, c2, rfl, h2, hb2⟩
  rw [HM.out] at h2 ⊢
  have R2 := Lib.hid h2
  replace R1 := Lib.hid (R1.out.on hb2)
  replace HB := Lib.hid (HB.out.trans (hb2.mono HB.out.size))
  clear h2 hb2
  go_wp2_with fail
  go_loopw [7, 8] (fun ov iv wr => ∃ (O : ByteArray) (i : Nat), ov = .string O ∧ iv = .int .i64 i ∧ i ≤ n ∧ i ≤ m ∧ bs9 O = jnc ((prt (bs9 a)).take i) ∧ cpl (prt (bs9 a)) (prt (bs9 b)) = (prt (bs9 a)).take i ++ cpl ((prt (bs9 a)).drop i) ((prt (bs9 b)).drop i) ∧ RdP wr A n c (prt (bs9 a)) ∧ RdP wr B m c2 (prt (bs9 b)) ∧ Below w.heap.size w wr) (fun _ iv _ => n - (intOf iv).toNat)
  case atStart => exact ⟨⟨#[]⟩, 0, rfl, rfl, Nat.zero_le _, Nat.zero_le _, rfl, rfl, R1.out, R2.out, HB.out⟩
  case round =>
    obtain ⟨O, i, rfl, rfl, hin, him, hO, hc, hr1, hr2, hbl⟩ := hrel
    clear R1 R2 HB
    have R1 := Lib.hid hr1
    have R2 := Lib.hid hr2
    have HB := Lib.hid hbl
    have HC := Lib.hid hc
    have HO := Lib.hid hO
    clear hr1 hr2 hbl hc hO
    have HX : Hid (cpl (prt (bs9 a)) (prt (bs9 b)) = (prt (bs9 a)).take i → O = X) := fun e => bs9_inj (by rw [HO.out, ← H.out]; unfold com; rw [e])
    have HQ : Hid (Below w.heap.size w wr → ∀ k, Below w.heap.size w (wr.drewN k)) := fun h k => h.trans ((below_drewN _ _).mono h.size)
    have hn9 : n ≤ 9223372036854775807 := by obtain ⟨_, q1, q2, _⟩ := R1.out; exact Nat.le_trans q1 q2
    have hm9 : m ≤ 9223372036854775807 := by obtain ⟨_, q1, q2, _⟩ := R2.out; exact Nat.le_trans q1 q2
    rcases Nat.lt_or_ge i n with h1 | h1
    · have d1 : decide ((i : Int) < (n : Int)) = true := decide_eq_true (by omega)
      have d1' : decide (i < n) = true := decide_eq_true h1
      rcases Nat.lt_or_ge i m with h2 | h2
      · have d2 : decide ((i : Int) < (m : Int)) = true := decide_eq_true (by omega)
        have d2' : decide (i < m) = true := decide_eq_true h2
        obtain ⟨p1, o1, rfl, q1, q2, q3, t1, q4, q5⟩ := R1.out.at_ (k := i) h1
        obtain ⟨p2, o2, rfl, y1, y2, y3, t2, y4, y5⟩ := R2.out.at_ (k := i) h2
        obtain ⟨T1, hT1⟩ : ∃ T, st9 t1 = T := ⟨_, rfl⟩
        obtain ⟨T2, hT2⟩ : ∃ T, st9 t2 = T := ⟨_, rfl⟩
        rw [hT1] at q5
        rw [hT2] at y5
        have hb1 : bs9 T1 = t1 := by rw [← hT1]; exact bs9_st9 fun x hx => bs9_lt a x (prt_mem _ t1 (List.mem_of_getElem? q4) x hx)
        have hb2 : bs9 T2 = t2 := by rw [← hT2]; exact bs9_st9 fun x hx => bs9_lt b x (prt_mem _ t2 (List.mem_of_getElem? y4) x hx)
        have hs := cpl_from HC.out q4 y4
        have hj := jnc_next q4
        have hl := jnc_take (bs9 a) (i + 1)
        have hl0 := jnc_take (bs9 a) i
        rw [bs9_len] at hl hl0
        have hOs : O.size ≤ 1000000 := by rw [← bs9_len O, HO.out]; omega
        clear hT1 hT2 q2 y2 q4 y4
        by_cases hT : T1 = T2
        · have d3 := eq_yes hT
          have E := Lib.hid (hs.1 (by rw [← hb1, ← hb2, hT]))
          rcases Nat.eq_zero_or_pos i with i0 | i0
          · have d4 : decide ((0 : Int) < (i : Int)) = false := decide_eq_false (by omega)
            have d4' : decide (0 < i) = false := decide_eq_false (by omega)
            obtain ⟨Z, hZ⟩ : ∃ Z, O ++ T1 = Z := ⟨_, rfl⟩
            have hZb : bs9 Z = jnc ((prt (bs9 a)).take (i + 1)) := by
              rw [← hZ, bs9_append, hb1, hj.1 i0, HO.out, i0]; rfl
            have hTs : T1.size ≤ 1000000 := by rw [← bs9_len T1, hb1, ← hj.1 i0]; omega
            have hadd : ∀ w, (Op.stringOp .add O T1).run Tryd.prog w = .ok (.string Z) w := fun w => add9 (by rw [← bs9_append, hZ]) (by omega) w
            have HZB := Lib.hid hZb
            clear hs hj hl hl0 hT hb1 hb2 hZ hZb i0
            go_wp2_with fail
            go_quiet (fail)
            go_wp2_with fail
            go_roundw
            case rel => exact ⟨Z, i + 1, rfl, by go_num, by omega, by omega, HZB.out, E.out, R1.out.on (below_drewN _ _), R2.out.on (below_drewN _ _), HQ.out HB.out _⟩
            case measure => simp [intOf] <;> omega
          · have d4 : decide ((0 : Int) < (i : Int)) = true := decide_eq_true (by omega)
            have d4' : decide (0 < i) = true := decide_eq_true (by omega)
            obtain ⟨Y, hY⟩ : ∃ Y, O ++ ⟨#[58]⟩ = Y := ⟨_, rfl⟩
            obtain ⟨Z, hZ⟩ : ∃ Z, Y ++ T1 = Z := ⟨_, rfl⟩
            have hZb : bs9 Z = jnc ((prt (bs9 a)).take (i + 1)) := by
              rw [← hZ, bs9_append, ← hY, bs9_append, hb1, hj.2 i0, HO.out]; rfl
            have hTs : Y.size + T1.size ≤ 1000000 := by
              have e := congrArg List.length hZb
              rw [← hZ, bs9_append, List.length_append, bs9_len, bs9_len] at e
              omega
            have hadd0 : ∀ w, (Op.stringOp .add O ⟨#[58]⟩).run Tryd.prog w = .ok (.string Y) w := fun w => add9 (by rw [← bs9_append, hY]) (by show O.size + 1 ≤ _; omega) w
            have hadd : ∀ w, (Op.stringOp .add Y T1).run Tryd.prog w = .ok (.string Z) w := fun w => add9 (by rw [← bs9_append, hZ]) (by omega) w
            have HZB := Lib.hid hZb
            clear hs hj hl hl0 hT hb1 hb2 hZ hZb hY i0
            go_wp2_with fail
            go_quiet (fail)
            go_wp2_with fail
            go_roundw
            case rel => exact ⟨Z, i + 1, rfl, by go_num, by omega, by omega, HZB.out, E.out, R1.out.on (below_drewN _ _), R2.out.on (below_drewN _ _), HQ.out HB.out _⟩
            case measure => simp [intOf] <;> omega
        · have d3 := eq_not hT
          have E := Lib.hid (HX.out (hs.2 (fun e => hT (bs9_inj (by rw [hb1, hb2, e])))))
          clear hs hj hl hl0 hT hb1 hb2
          go_wp2_with fail
          go_quiet (fail)
          go_wp2_with fail
          go_ret
          exact ⟨by rw [← E.out]; rfl, HQ.out HB.out _⟩
      · have d2 : decide ((i : Int) < (m : Int)) = false := decide_eq_false (by omega)
        have d2' : decide (i < m) = false := decide_eq_false (by omega)
        have E := Lib.hid (HX.out (cpl_end HC.out (.inr (by rw [HM.out]; exact h2))))
        go_wp2_with fail
        go_quiet (fail)
        go_wp2_with fail
        go_ret
        exact ⟨by rw [← E.out]; rfl, HQ.out HB.out _⟩
    · have d1 : decide ((i : Int) < (n : Int)) = false := decide_eq_false (by omega)
      have d1' : decide (i < n) = false := decide_eq_false (by omega)
      have E := Lib.hid (HX.out (cpl_end HC.out (.inl (by rw [HN.out]; exact h1))))
      go_wp2_with fail
      go_quiet (fail)
      go_wp2_with fail
      go_ret
      exact ⟨by rw [← E.out]; rfl, HQ.out HB.out _⟩

end Go.Proofs.YtaaikbbgbnbmkaaDoor
