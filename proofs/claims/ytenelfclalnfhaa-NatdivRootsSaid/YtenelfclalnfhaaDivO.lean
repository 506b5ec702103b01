/-
  Contracts of layer 3: aboveRoot, Root.
-/
import Derived.Test.YtenelfclalnfhaaDivC
import Derived.Test.YtenelfclalnfhaaDivN
import Derived.Test.YtenelfclalnfhaaNatI
namespace Go.Proofs.Ytenelfclalnfhaa
open Go.RowKit

/-- What Root hands back. -/
def RetRoot (W : World) (a : Nat) (e : Ending) (w' : World) : Prop :=
  ∃ (s : Nat) (A : Option Addr) (n c : Nat), IsRoot a s ∧ e = .returned (.slice A n c) ∧ Num w' w'.heap.size A n c s ∧ Below W.heap.size W w'
/-- What aboveRoot hands back: a number whose square is above a. -/
def RetAbove (W : World) (a m : Nat) (e : Ending) (w' : World) : Prop :=
  ∃ (x : Nat) (A : Option Addr) (n c : Nat), a < x * x ∧ n ≤ m + 3 ∧ e = .returned (.slice A n c) ∧ Num w' w'.heap.size A n c x ∧ Below W.heap.size W w'
/-- Numbers of at most k limbs have a root. -/
def RootTo (k : Nat) : Prop := ∀ (A : Option Addr) (n c a : Nat) (w : World), Num w w.heap.size A n c a → n ≤ k → Calls Try.prog 27 #[.slice A n c] w (RetRoot w a)

theorem above_small (A : Option Addr) (n c a : Nat) (w : World) (h : Num w w.heap.size A n c a) (hn : n ≤ 2) :
    Calls Try.prog 47 #[.slice A n c] w (RetAbove w a n) := by
  have HA : Hid (a < 1000000000 * 1000000000) := by show _ < _; have := pow_of_len h.len hn; omega
  clear h
  go_enter Try.func47, Try.ntmps47
  go_wp2_with fail
  refine (mk_any 1000000000 _ rfl (by decide) _).mono ?_; rintro e w1 ⟨A1, n1, c1, rfl, h1, hb1⟩
  have hn1 : n1 ≤ 3 := by have := len_of_u64 (N := 1000000000) (by decide); rwa [h1.len] at this
  have H1 := Lib.hid h1
  have HB1 := Lib.hid hb1
  clear h1 hb1
  go_wp2_with fail
  go_ret
  exact ⟨_, _, _, _, HA.out, by omega, rfl, H1.out, HB1.out⟩

set_option maxHeartbeats 1000000 in
theorem above_big (k : Nat) (ih : Hid (RootTo k)) (A : Option Addr) (n c a : Nat) (w : World) (h : Num w w.heap.size A n c a) (hn : n ≤ k + 1) (h3 : 3 ≤ n) (hk : k ≤ 10000) :
    Calls Try.prog 47 #[.slice A n c] w (RetAbove w a n) := by
  obtain ⟨m, hm⟩ : ∃ m, m = (n + 1) / 4 := ⟨_, rfl⟩
  have hm0 : 0 < m := by omega
  have hmn : 2 * m < n := by omega
  have eM : ((n : Int) + 1) / 4 = (m : Int) := by omega
  have EM := Lib.hid eM
  have hroom := h.room
  have hcap := h.cap
  unfold maxLen at hroom
  obtain ⟨b0, o0, rfl, hB0, _⟩ := h.at_ (show 0 < n by omega)
  have HR : Hid (Num w w.heap.size (some ⟨b0, o0 + 2 * ((n + 1) / 4), none⟩) (n - 2 * ((n + 1) / 4)) (c - 2 * ((n + 1) / 4)) (a / 1000000000 ^ (2 * m))) := by
    rw [← hm]
    have := h.rest (k := 2 * m) (by omega) (some ⟨b0, o0 + 2 * m, none⟩) (fun _ => rfl) (fun h => by cases h)
    rw [dg_drop] at this
    exact this
  have LD := Lib.hid (div_len (h := 2 * m) h.len)
  clear h hm eM
  go_enter Try.func47, Try.ntmps47
  go_wp2_with fail
  refine (ih.out _ _ _ _ w HR.out (by omega)).mono ?_; rintro e w1 ⟨s, A1, n1, c1, hs, rfl, h1, hb1⟩
  have hn1 : n1 ≤ n - 2 * m := by rw [← h1.len]; exact Nat.le_trans (dg_len_mono hs.le) LD.out
  have HS : Hid (a < (s + 1) * 1000000000 ^ m * ((s + 1) * 1000000000 ^ m)) := above_square hs.2
  have L1 := Lib.hid h1.len
  have H1 := Lib.hid h1
  have HB1 := Lib.hid hb1
  clear h1 hb1 hs
  go_wp2_with fail
  refine (mk_any 1 _ rfl (by decide) _).mono ?_; rintro e w2 ⟨A2, n2, c2, rfl, h2, hb2⟩
  have hn2 : n2 ≤ 1 := by rw [← h2.len]; exact dg_len_le (by decide)
  have H1 := Lib.hid ((H1.out.below hb2).more hb2.size)
  have L2 := Lib.hid h2.len
  have H2 := Lib.hid h2
  have HB2 := Lib.hid (HB1.out.trans (hb2.mono HB1.out.size))
  clear h2 hb2
  go_wp2_with fail
  refine (add_is H1.out H2.out (by omega) (by omega) rfl).mono ?_; rintro e w3 ⟨A3, n3, c3, rfl, h3', hb3⟩
  have hn3 : n3 ≤ n - 2 * m + 2 := by have := sum_len h3' (Nat.le_of_eq L1.out) (Nat.le_of_eq L2.out); omega
  have HX : Hid ((s + 1) * 10 ^ (m * 9) = (s + 1) * 1000000000 ^ m) := by show _ = _; rw [pow9, Nat.mul_comm m 9]
  have L3 := Lib.hid h3'.len
  have H3 := Lib.hid h3'
  have HB3 := Lib.hid (HB2.out.trans (hb3.mono HB2.out.size))
  clear h3' hb3
  go_wp2_with fail
  refine (shift_is (k := m * 9) H3.out (by omega) (by omega) (by have := EM.out; omega) HX.out).mono ?_; rintro e w4 ⟨A4, n4, c4, rfl, h4, hb4⟩
  have hn4 : n4 ≤ n + 3 := by
    rw [← h4.len]
    have k1 := dg_len_mul (s + 1) (1000000000 ^ m)
    have k2 : (dg (1000000000 ^ m)).length ≤ m + 1 := dg_len_le (Nat.pow_lt_pow_right (by omega) (Nat.lt_succ_self m))
    have := L3.out
    omega
  have H4 := Lib.hid h4
  have HB4 := Lib.hid (HB3.out.trans (hb4.mono HB3.out.size))
  clear h4 hb4
  go_wp2_with fail
  go_ret
  exact ⟨_, _, _, _, HS.out, hn4, rfl, H4.out, HB4.out⟩

theorem root_zero (A : Option Addr) (c : Nat) (w : World) :
    Calls Try.prog 27 #[.slice A 0 c] w (RetRoot w 0) := by
  go_enter Try.func27, Try.ntmps27
  go_wp2_with fail
  go_ret
  exact ⟨0, _, _, _, ⟨Nat.le_refl _, by decide⟩, rfl, by rw [Num, dg_zero]; exact Lim.nil, Below.refl _ _⟩

set_option maxHeartbeats 2000000 in
set_option maxRecDepth 100000 in
theorem root_some (A : Option Addr) (n c a : Nat) (w : World) (h : Num w w.heap.size A n c a) (hn : n ≤ 10001) (ha : 0 < a)
    (hab : Hid (Calls Try.prog 47 #[.slice A n c] w (RetAbove w a n))) :
    Calls Try.prog 27 #[.slice A n c] w (RetRoot w a) := by
  have hp := dg_len_pos h.len ha
  have hne : ((n : Int) == 0) = false := by simp; omega
  have H := Lib.hid h
  have HA := Lib.hid ha
  have LA := Lib.hid h.len
  clear h ha
  go_enter Try.func27, Try.ntmps27
  go_wp2_with fail
  refine hab.out.mono ?_; rintro e w1 ⟨x0, A1, n1, c1, hx, hn1, rfl, h1, hb1⟩
  have HX := Lib.hid hx
  have H1 := Lib.hid h1
  have HB1 := Lib.hid hb1
  clear h1 hb1 hx hab
  go_wp2_with fail
  go_loopg [3] x0 (fun gk rv wr => ∃ (A2 : Option Addr) (n2 c2 : Nat), rv = .slice A2 n2 c2 ∧ n2 ≤ n + 3 ∧ Num wr wr.heap.size A2 n2 c2 gk ∧ 0 < gk ∧ a < (gk + 1) * (gk + 1) ∧ Below w.heap.size w wr)
  case atStart =>
    refine ⟨A1, n1, c1, rfl, hn1, H1.out, ?_, ?_, HB1.out⟩
    · rcases Nat.eq_zero_or_pos x0 with h0 | h0
      · have := HX.out; rw [h0] at this; omega
      · exact h0
    · exact Nat.lt_of_lt_of_le HX.out (Nat.mul_le_mul (Nat.le_succ _) (Nat.le_succ _))
  case round =>
    obtain ⟨A2, n2, c2, rfl, hn2, h2, hg, hlt, hb⟩ := hrel
    have E := Env.two ((H.out.below hb).more hb.size) h2
    have L2 := Lib.hid h2.len
    have HG := Lib.hid hg
    have HLT := Lib.hid hlt
    have HB := Lib.hid hb
    obtain ⟨q, hq⟩ : ∃ q, a / gk = q := ⟨_, rfl⟩
    obtain ⟨y, hy⟩ : ∃ y, (gk + q) / 2 = y := ⟨_, rfl⟩
    have LQ : Hid ((dg q).length ≤ n) := by show _ ≤ _; rw [← hq]; exact div_len_le LA.out
    have NN : Hid (a < (y + 1) * (y + 1)) := by show _ < _; rw [← hy, ← hq]; exact newton_next hg
    have NP : Hid (0 < y) := by show _ < _; rw [← hy, ← hq]; exact newton_pos hg HA.out
    have NS : Hid (gk ≤ y → gk * gk ≤ a) := by intro hh; rw [← hy, ← hq] at hh; exact newton_stop hg hh
    have HQ := Lib.hid hq
    have HY := Lib.hid hy
    clear h2 hg hlt hb hq hy H1 HX
    go_wp2_with fail
    refine (div_is (a := a) (b := gk) (q := q) (r := a % gk) (Env.get E (A := A) (n := n) (c := c) (by simp)) (Env.get E (A := A2) (n := n2) (c := c2) (by simp)) (by omega) HG.out HQ.out rfl).mono ?_; rintro e w3 ⟨A3, n3, c3, A4, n4, c4, rfl, h3, h4, hb3⟩; replace E := Env.push E hb3 h3
    have hn3 : n3 ≤ n := by rw [← h3.len]; exact LQ.out
    have L3 := Lib.hid h3.len
    clear h3 h4 hb3
    go_wp2_with fail
    refine (add_is (a := gk) (b := q) (Env.get E (A := A2) (n := n2) (c := c2) (by simp)) (Env.get E (A := A3) (n := n3) (c := c3) (by simp)) (by omega) (by omega) rfl).mono ?_; rintro e w5 ⟨A5, n5, c5, rfl, h5, hb5⟩; replace E := Env.push E hb5 h5
    have hn5 : n5 ≤ n + 4 := by have := sum_len h5 (Nat.le_of_eq L2.out) (Nat.le_of_eq L3.out); omega
    clear h5 hb5
    go_wp2_with fail
    refine (dsmall_is (a := gk + q) (N := 2) (q := y) (r := (gk + q) % 2) (Env.get E (A := A5) (n := n5) (c := c5) (by simp)) (by omega) (by omega) (by omega) rfl HY.out rfl).mono ?_; rintro e w6 ⟨A6, n6, c6, rfl, h6, hb6⟩; replace E := Env.push E hb6 h6
    have L6 := Lib.hid h6.len
    clear h6 hb6
    go_wp2_with fail
    rcases Nat.lt_or_ge y gk with hc | hc
    · refine (cmp_is (a := y) (b := gk) (Env.get E (A := A6) (n := n6) (c := c6) (by simp)) (Env.get E (A := A2) (n := n2) (c := c2) (by simp)) (cmpN_lt hc)).mono ?_; rintro e w7 ⟨rfl, hb⟩; replace E := Env.step E hb
      have hn6 : n6 ≤ n + 3 := by have := dg_len_mono (Nat.le_of_lt hc); have := L6.out; have := L2.out; omega
      clear hb
      go_wp2_with fail
      go_roundg y
      case measure => exact hc
      case rel => exact ⟨A6, n6, c6, rfl, hn6, Env.get E (by simp), NP.out, NN.out, HB.out.trans (E.out.1.mono HB.out.size)⟩
    · obtain ⟨s, hs, hs0⟩ : ∃ s, cmpN y gk = s ∧ 0 ≤ s := ⟨_, rfl, by
        rcases Int.lt_or_le (cmpN y gk) 0 with h1 | h1
        · rw [cmpN_neg] at h1; omega
        · exact h1⟩
      have CC := Lib.hid hs
      have NS2 := Lib.hid (NS.out hc)
      clear hs hc
      refine (cmp_is (a := y) (b := gk) (Env.get E (A := A6) (n := n6) (c := c6) (by simp)) (Env.get E (A := A2) (n := n2) (c := c2) (by simp)) CC.out).mono ?_; rintro e w7 ⟨rfl, hb⟩; replace E := Env.step E hb
      clear hb
      go_wp2_with fail
      go_ret
      exact ⟨gk, _, _, _, ⟨NS2.out, HLT.out⟩, rfl, Env.get E (by simp), HB.out.trans (E.out.1.mono HB.out.size)⟩

theorem root_to (k : Nat) (hk : k ≤ 10000) : RootTo k := by
  induction k with
  | zero =>
    intro A n c a w h hn
    obtain rfl : n = 0 := by omega
    obtain rfl := dg_eq_nil.1 (List.eq_nil_of_length_eq_zero h.len)
    exact root_zero A c w
  | succ k ih =>
    intro A n c a w h hn
    rcases Nat.eq_zero_or_pos a with h0 | h0
    · subst h0
      obtain rfl : n = 0 := h.len.symm.trans (by rw [dg_zero]; rfl)
      exact root_zero A c w
    · refine root_some A n c a w h (by omega) h0 ?_
      rcases Nat.lt_or_ge n 3 with h3 | h3
      · exact above_small A n c a w h (by omega)
      · exact above_big k (ih (by omega)) A n c a w h hn h3 (by omega)
theorem root_is {A : Option Addr} {n c a : Nat} {w : World} (h : Num w w.heap.size A n c a) (hn : n ≤ 10000) :
    Calls Try.prog 27 #[.slice A n c] w (RetRoot w a) := root_to 10000 (Nat.le_refl _) A n c a w h hn

end Go.Proofs.Ytenelfclalnfhaa
