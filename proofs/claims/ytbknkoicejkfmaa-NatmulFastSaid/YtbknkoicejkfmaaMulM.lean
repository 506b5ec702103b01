/-
  The walk of the law NatmulFast.
-/
import Derived.Test.YtbknkoicejkfmaaMulL
namespace Go.Proofs.Ytbknkoicejkfmaa
open Go.RowKit

theorem fast_cases (n1 n2 n3 : Nat) (x1 x2 : List Nat) :
    (40 < n1) ∨ (n1 ≤ 40 ∧ 40 < n2) ∨ (n1 ≤ 40 ∧ n2 ≤ 40 ∧ rightB x1 = false) ∨ (n1 ≤ 40 ∧ n2 ≤ 40 ∧ rightB x1 = true ∧ rightB x2 = false) ∨ (n1 ≤ 40 ∧ n2 ≤ 40 ∧ rightB x1 = true ∧ rightB x2 = true ∧ 12 < n3) ∨
    (n1 ≤ 40 ∧ n2 ≤ 40 ∧ rightB x1 = true ∧ rightB x2 = true ∧ n3 ≤ 12) := by
  by_cases h1 : 40 < n1
  · exact .inl h1
  · by_cases h2 : 40 < n2
    · exact .inr (.inl ⟨by omega, h2⟩)
    · have e1 : n1 ≤ 40 := by omega
      have e2 : n2 ≤ 40 := by omega
      by_cases h3 : 12 < n3
      · cases rightB x1 <;> cases rightB x2 <;> simp [e1, e2, h3]
      · have e3 : n3 ≤ 12 := by omega
        cases rightB x1 <;> cases rightB x2 <;> simp [e1, e2, e3]

set_option maxHeartbeats 1000000 in
set_option maxRecDepth 100000 in
theorem mfast_bad (A1 A2 A3 : Option Addr) (n1 n2 n3 c1 c2 c3 : Nat) (x1 x2 : List Nat) (w : World) (h1 : Hid (Lim w w.heap.size A1 n1 c1 x1)) (h2 : Hid (Lim w w.heap.size A2 n2 c2 x2))
    (hbad : ¬ (n1 ≤ 40 ∧ n2 ≤ 40 ∧ rightB x1 = true ∧ rightB x2 = true ∧ n3 ≤ 12)) :
    Calls Try.prog 7 #[.slice A1 n1 c1, .slice A2 n2 c2, .slice A3 n3 c3] w (RetVal w (.bool true)) := by
  rcases fast_cases n1 n2 n3 x1 x2 with hl1 | ⟨hl1, hl2⟩ | ⟨hl1, hl2, hr1⟩ | ⟨hl1, hl2, hr1, hr2⟩ | ⟨hl1, hl2, hr1, hr2, hl3⟩ | hgood
  case inr.inr.inr.inr.inr => exact absurd hgood hbad
  all_goals
    clear hbad
    go_enter Try.func7, Try.ntmps7
    go_wp2_with (first | (go_at_call 9; first | ((with_reducible refine (refRight_any A1 n1 c1 _ x1 _ h1.out).mono ?_); rintro e w' ⟨rfl, rfl⟩) | ((with_reducible refine (refRight_any A2 n2 c2 _ x2 _ h2.out).mono ?_); rintro e w' ⟨rfl, rfl⟩)) | (go_at_call 10; refine (awake_any _).mono ?_; rintro e w' ⟨rfl, hb⟩; have HB := Lib.hid hb; clear hb))
    go_ret
    exact ⟨rfl, HB.out⟩

theorem rights_of {qs : List Spot} {n K : Nat} (hl : qs.length = n) (h : ∀ j, j < n → rightB (sp qs j).2.2.2 = true ∧ (sp qs j).2.1 ≤ K) : Rights qs K := by
  intro q hq
  obtain ⟨j, hj, rfl⟩ := List.getElem_of_mem hq
  have := h j (by omega)
  unfold sp at this
  rwa [List.getD_eq_getElem?_getD, List.getElem?_eq_getElem hj] at this
theorem rights_step {qs : List Spot} {k K : Nat} (h : ∀ j, j < k → rightB (sp qs j).2.2.2 = true ∧ (sp qs j).2.1 ≤ K) (hr : rightB (sp qs k).2.2.2 = true) (hK : (sp qs k).2.1 ≤ K) : ∀ j, j < k + 1 → rightB (sp qs j).2.2.2 = true ∧ (sp qs j).2.1 ≤ K := by
  intro j hj
  rcases Nat.lt_or_ge j k with h1 | h1
  · exact h j h1
  · obtain rfl : j = k := by omega
    exact ⟨hr, hK⟩

theorem sum_same (A : Option Addr) (n c K : Nat) (qs : List Spot) (w : World) (h : Lims w w.heap.size A n c qs) (hq : Rights qs K) (hn : n ≤ 1000000) (hK : K ≤ 400000) :
    Calls Try.prog 29 #[.slice A n c, .slice A n c] w (RetNum w (dot qs qs n)) :=
  sum_any A A n c n c K n qs qs w h h hq hq hn hn hK (by omega)
theorem sum_nil (A : Option Addr) (n c K : Nat) (qs : List Spot) (w : World) (h : Lims w w.heap.size A n c qs) (hq : Rights qs K) (hn : n ≤ 1000000) (hK : K ≤ 400000) :
    Calls Try.prog 29 #[.slice A n c, .slice none 0 0] w (RetNum w 0) :=
  sum_any A none n c 0 0 K 0 qs [] w h (Lims.nil _ _) hq (fun q hq => by cases hq) hn (by omega) hK (by omega)

set_option maxHeartbeats 2000000 in
set_option maxRecDepth 100000 in
theorem mfast_good (A1 A2 A3 : Option Addr) (n1 n2 n3 c1 c2 c3 a b : Nat) (qs : List Spot) (w : World) (h1 : Num w w.heap.size A1 n1 c1 a) (h2 : Num w w.heap.size A2 n2 c2 b) (h3 : Lims w w.heap.size A3 n3 c3 qs)
    (hl1 : n1 ≤ 40) (hl2 : n2 ≤ 40) (hl3 : n3 ≤ 12) :
    Calls Try.prog 7 #[.slice A1 n1 c1, .slice A2 n2 c2, .slice A3 n3 c3] w (RetVal w (.bool true)) := by
  have hr1 := right_dg a
  have hr2 := right_dg b
  have hm3 := h3.room
  have hcap3 := h3.cap
  unfold maxLen at hm3
  have E := Env.two h1 h2
  have Q := Lib.hid h3
  clear h1 h2 h3
  go_enter Try.func7, Try.ntmps7
  go_wp2_with (first | (go_at_call 9; first | ((with_reducible refine (refRight_any A1 n1 c1 _ (dg a) _ (Env.get E (by simp))).mono ?_); rintro e w' ⟨rfl, rfl⟩) | ((with_reducible refine (refRight_any A2 n2 c2 _ (dg b) _ (Env.get E (by simp))).mono ?_); rintro e w' ⟨rfl, rfl⟩)) | fail)
  clear hr1 hr2
  refine (mk_any 0 _ rfl (by decide) _).mono ?_; rintro e w1 ⟨A4, n4, c4, rfl, h, hb⟩
  obtain rfl : n4 = 0 := h.len.symm.trans (by rw [dg_zero]; rfl)
  have H4 := Lib.hid h
  have HB1 := Lib.hid hb
  clear h hb
  go_wp2_with fail
  go_loopw [7, 38] (fun v iv wr => ∃ (i : Nat) (A5 : Option Addr) (n5 c5 : Nat), i ≤ n3 ∧ iv = .int .i64 i ∧ v = .slice A5 n5 c5 ∧ n5 ≤ 24 + i ∧ Num wr wr.heap.size A5 n5 c5 (dot qs qs i) ∧ (∀ j, j < i → rightB (sp qs j).2.2.2 = true ∧ (sp qs j).2.1 ≤ 12) ∧ Below w.heap.size w wr) (fun _ iv _ => n3 - (intOf iv).toNat)
  case atStart => exact ⟨0, A4, 0, c4, Nat.zero_le _, rfl, rfl, by omega, H4.out, fun j hj => absurd hj (by omega), HB1.out⟩
  case round =>
    obtain ⟨i, A5, n5, c5, hi, rfl, rfl, h5, hnum, hall, hb⟩ := hrel
    have HN := Lib.hid hnum
    have HALL := Lib.hid hall
    have HB := Lib.hid hb
    clear hnum hall hb
    rcases Nat.lt_or_ge i n3 with hin | hin
    · have Q1 := Lib.hid (Q.out.below HB.out)
      obtain ⟨b6, o6, rfl, _, hc⟩ := Q1.out.at_ hin
      have X := Lib.hid (Q1.out.elems _ (sp_mem (qs := qs) (k := i) (by rw [Q.out.len]; exact hin)))
      have HV : Hid (vq qs i = val (sp qs i).2.2.2) := rfl
      obtain ⟨q, hq⟩ : ∃ q, q = sp qs i := ⟨_, rfl⟩
      have HST : Hid (rightB (sp qs i).2.2.2 = true → (sp qs i).2.1 ≤ 12 → ∀ j, j < i + 1 → rightB (sp qs j).2.2.2 = true ∧ (sp qs j).2.1 ≤ 12) := fun h1 h2 => rights_step HALL.out h1 h2
      rw [← hq] at hc X HV HST
      clear hq
      obtain ⟨A7, n7, c7, x7⟩ := q
      have hc' : wr.cell? ⟨b6, o6 + i, none⟩ = some (.slice A7 n7 c7) := hc
      have X7 : Hid (Lim wr w.heap.size A7 n7 c7 x7) := X
      have HV7 : Hid (vq qs i = val x7) := HV
      have HS7 : Hid (rightB x7 = true → n7 ≤ 12 → ∀ j, j < i + 1 → rightB (sp qs j).2.2.2 = true ∧ (sp qs j).2.1 ≤ 12) := HST
      clear hc X HV HST
      rcases Nat.lt_or_ge 12 n7 with h12 | h12
      · go_wp2_with (first | (go_at_call 10; refine (awake_any _).mono ?_; rintro e w' ⟨rfl, hb⟩; have HB7 := Lib.hid (HB.out.trans (hb.mono HB.out.size)); clear hb) | fail)
        go_ret
        exact ⟨rfl, HB7.out⟩
      · cases hr : rightB x7
        · go_wp2_with (first | (go_at_call 9; ((with_reducible refine (refRight_any A7 n7 c7 _ x7 _ X7.out).mono ?_); rintro e w' ⟨rfl, rfl⟩)) | (go_at_call 10; refine (awake_any _).mono ?_; rintro e w' ⟨rfl, hb⟩; have HB7 := Lib.hid (HB.out.trans (hb.mono HB.out.size)); clear hb) | fail)
          go_ret
          exact ⟨rfl, HB7.out⟩
        · have N7 := Lib.hid ((X7.out.num hr).more HB.out.size)
          have HALL2 := Lib.hid (HS7.out hr h12)
          have C1 := Lib.hid (mul_is (m := val x7 * val x7) N7.out N7.out (by omega) (by omega) rfl)
          clear HS7
          go_wp2_with (first | (go_at_call 9; ((with_reducible refine (refRight_any A7 n7 c7 _ x7 _ X7.out).mono ?_); rintro e w' ⟨rfl, rfl⟩)) | fail)
          refine C1.out.mono ?_; rintro e w8 ⟨A8, n8, c8, rfl, h8, hb8⟩
          have s8 : n8 ≤ 24 := by have := mul_len h8 (Nat.le_of_eq N7.out.len) (Nat.le_of_eq N7.out.len); omega
          have N8 := Lib.hid h8
          have N5 := Lib.hid ((HN.out.below hb8).more hb8.size)
          have HB8 := Lib.hid (HB.out.trans (hb8.mono HB.out.size))
          clear h8 hb8
          go_wp2_with fail
          refine (add_is (m := dot qs qs (i + 1)) N5.out N8.out (by omega) (by omega) (by rw [dot, HV7.out])).mono ?_; rintro e w9 ⟨A9, n9, c9, rfl, h9, hb9⟩
          have s9 : n9 ≤ 24 + (i + 1) := by
            have h0 := h9
            rw [dot, HV7.out] at h0
            have := sum_len h0 (Nat.le_of_eq N5.out.len) (Nat.le_of_eq N8.out.len)
            omega
          have N9 := Lib.hid h9
          have HB9 := Lib.hid (HB8.out.trans (hb9.mono HB8.out.size))
          clear h9 hb9 hr
          go_wp2_with fail
          go_roundw
          case rel => exact ⟨i + 1, A9, n9, c9, by omega, by go_num, rfl, s9, N9.out, HALL2.out, HB9.out⟩
          case measure => simp [intOf]; omega
    · obtain rfl : i = n3 := by omega
      have RT := Lib.hid (rights_of Q.out.len HALL.out)
      replace E := Env.push (Env.step E HB.out) (Below.refl _ _) HN.out
      clear HALL HN H4
      go_wp2_with fail
      refine (fast_is (a := a) (b := b) (Env.get E (A := A1) (n := n1) (c := c1) (by simp)) (Env.get E (A := A2) (n := n2) (c := c2) (by simp)) (by omega) (by omega) rfl).mono ?_; rintro e w6 ⟨A6, n6, c6, rfl, h, _, hb⟩; replace E := Env.push E hb h
      clear h hb
      go_wp2_with fail
      refine (right_is (xs := dg (a * b)) (t := true) (Env.get E (A := A6) (n := n6) (c := c6) (by simp)) (right_dg _)).mono ?_; rintro e w' ⟨rfl, rfl⟩
      go_wp2_with fail
      refine (mul_is (a := a) (b := b) (Env.get E (A := A1) (n := n1) (c := c1) (by simp)) (Env.get E (A := A2) (n := n2) (c := c2) (by simp)) (by omega) (by omega) rfl).mono ?_; rintro e w7 ⟨A7, n7, c7, rfl, h, hb⟩; replace E := Env.push E hb h
      clear h hb
      go_wp2_with fail
      refine (same_is (a := a * b) (b := a * b) (Env.get E (A := A6) (n := n6) (c := c6) (by simp)) (Env.get E (A := A7) (n := n7) (c := c7) (by simp)) rfl).mono ?_; rintro e w8 ⟨rfl, hb⟩; replace E := Env.step E hb
      clear hb
      have Q8 := Lib.hid ((Q.out.below E.out.1).more E.out.1.size)
      go_wp2_with fail
      refine (sum_same A3 i c3 12 qs _ Q8.out RT.out (by omega) (by omega)).mono ?_; rintro e w9 ⟨A9, n9, c9, rfl, h, hb⟩; replace E := Env.push E hb h
      clear h hb
      go_wp2_with fail
      refine (same_is (a := dot qs qs i) (b := dot qs qs i) (Env.get E (A := A9) (n := n9) (c := c9) (by simp)) (Env.get E (A := A5) (n := n5) (c := c5) (by simp)) rfl).mono ?_; rintro e w10 ⟨rfl, hb⟩; replace E := Env.step E hb
      clear hb
      have Q10 := Lib.hid ((Q.out.below E.out.1).more E.out.1.size)
      go_wp2_with fail
      refine (sum_nil A3 i c3 12 qs _ Q10.out RT.out (by omega) (by omega)).mono ?_; rintro e w11 ⟨A11, n11, c11, rfl, h, hb⟩; replace E := Env.push E hb h
      obtain rfl : n11 = 0 := h.len.symm.trans (by rw [dg_zero]; rfl)
      clear h hb
      go_wp2_with fail
      refine (awake_any _).mono ?_; rintro e w12 ⟨rfl, hb⟩; replace E := Env.step E hb
      clear hb
      go_wp2_with fail
      go_ret
      exact ⟨rfl, E.out.1⟩

theorem mfast_any (A1 A2 A3 : Option Addr) (n1 n2 n3 c1 c2 c3 : Nat) (x1 x2 : List Nat) (qs : List Spot) (w : World) (h1 : Hid (Lim w w.heap.size A1 n1 c1 x1)) (h2 : Hid (Lim w w.heap.size A2 n2 c2 x2)) (h3 : Hid (Lims w w.heap.size A3 n3 c3 qs)) :
    Calls Try.prog 7 #[.slice A1 n1 c1, .slice A2 n2 c2, .slice A3 n3 c3] w (RetVal w (.bool true)) := by
  by_cases hg : n1 ≤ 40 ∧ n2 ≤ 40 ∧ rightB x1 = true ∧ rightB x2 = true ∧ n3 ≤ 12
  · obtain ⟨l1, l2, r1, r2, l3⟩ := hg
    exact mfast_good A1 A2 A3 n1 n2 n3 c1 c2 c3 _ _ qs w (h1.out.num r1) (h2.out.num r2) h3.out l1 l2 l3
  · exact mfast_bad A1 A2 A3 n1 n2 n3 c1 c2 c3 x1 x2 w h1 h2 hg

end Go.Proofs.Ytbknkoicejkfmaa
