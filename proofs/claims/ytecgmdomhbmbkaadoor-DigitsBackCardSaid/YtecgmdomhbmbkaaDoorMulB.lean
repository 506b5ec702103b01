/-
  Contracts of layer 2, the second part: Mul, Times.
-/
import Derived.Test.YtecgmdomhbmbkaaDoorMulA
import Derived.Test.YtecgmdomhbmbkaaDoorNatH
namespace Go.Proofs.YtecgmdomhbmbkaaDoor
open Go.RowKit

/-- What a call hands back that makes limbs in memory of its own. -/
def RetFresh (W : World) (xs : List Nat) (e : Ending) (w' : World) : Prop :=
  ∃ A n c, e = .returned (.slice A n c) ∧ Lim w' w'.heap.size A n c xs ∧ (∀ ad, A = some ad → W.heap.size ≤ ad.block) ∧ Below W.heap.size W w'
abbrev RetNew (W : World) (a : Nat) (e : Ending) (w' : World) : Prop := RetFresh W (dg a) e w'
theorem RetFresh.lim {W : World} {xs : List Nat} {e : Ending} {w' : World} (h : RetFresh W xs e w') : RetLim W xs e w' := by
  obtain ⟨A, n, c, he, hl, _, hb⟩ := h
  exact ⟨A, n, c, he, hl, hb⟩

theorem zeros_limbs (n : Nat) : limbs (List.replicate n 0) := fun x hx => by rw [(List.mem_replicate.1 hx).2]; omega
theorem addRow_is {A' : Option Addr} {g i n' c' m l b p V : Nat} {zs : List Nat} {w : World} (ho : Hid (Own w g zs)) (hl : Hid (limbs zs)) (hm : zs.length = m) (him : i + n' + 1 ≤ m) (hmm : m ≤ 1000000000) (hv : val zs < 1000000000 ^ (i + n'))
    (h' : Num w g A' n' c' b) (hlim : l < 1000000000) (hp : p = n' + 1) (hV : val zs + 1000000000 ^ i * (l * b) = V) :
    Calls Tryd.prog 52 #[.slice (some ⟨g, i, none⟩) p p, .slice A' n' c', .int .u32 l] w (RetRoom w g m V) := by
  subst hp; subst hV
  exact addRow_any A' g i n' c' m l b zs w ho hl hm him hmm (gd_of_val_lt hv) h' hlim

set_option maxHeartbeats 1000000 in
set_option maxRecDepth 100000 in
theorem mul_both (A A' : Option Addr) (n c n' c' a b : Nat) (w : World) (h : Num w w.heap.size A n c a) (h' : Num w w.heap.size A' n' c' b) (hn : n ≤ 10000000) (hn' : n' ≤ 10000000) (args : Array Value)
    (hargs : (args = #[.slice A n c, .slice A' n' c'] ∧ n ≤ n') ∨ (args = #[.slice A' n' c', .slice A n c] ∧ n < n')) :
    Calls Tryd.prog 44 args w (RetNew w (a * b)) := by
  obtain ⟨i0, hi, hz0, hz1, hz2⟩ := info_parts info_limb
  have PB := Lib.hid (pow_of_len h'.len (Nat.le_refl _))
  have hmA := h.room
  have hcA := h.cap
  have hmB := h'.room
  have hcB := h'.cap
  unfold maxLen at hmA hmB
  have H := Lib.hid h
  have H' := Lib.hid h'
  clear h h'
  rcases hargs with ⟨rfl, hle⟩ | ⟨rfl, hle⟩
  all_goals
    go_enter Tryd.func44, Tryd.ntmps44
    go_wp2_with (at_make; go_must (refine wpList_make_full _ rfl _ _ 23 rfl w.heap.size 36 i0 (.int .u32 0) 1 Tryd.underlying23 hi hz0 hz1 _ _ _ _ (n + n') rfl rfl (by omega) (by omega) (by rw [hz2]; omega) (by unfold maxLen; omega) (Nat.le_refl _) ?_; intro w1 hown1 hgr1; have M1 : Hid (Own w1 w.heap.size (List.replicate (n + n') 0)) := Own.of_made hown1; have HB1 : Hid (Below w.heap.size w w1) := (Below.refl _ _).grown hgr1 (Nat.le_refl _) (fun k hk => by cases hk); clear hown1 hgr1))
    go_loopw [24] (fun iv wr => ∃ (i : Nat) (zs : List Nat), i ≤ n ∧ iv = .int .i64 i ∧ zs.length = n + n' ∧ limbs zs ∧ val zs = val ((dg a).take i) * b ∧ Own wr w.heap.size zs ∧ Below w.heap.size w wr) (fun iv _ => n - (intOf iv).toNat)
    case atStart =>
      exact ⟨0, List.replicate (n + n') 0, Nat.zero_le _, rfl, by simp, zeros_limbs _, by rw [val_zeros, List.take_zero, val, Nat.zero_mul], M1.out, HB1.out⟩
    case round =>
      obtain ⟨i, zs, hi1, rfl, hlen, hlim, hval, hown, hb⟩ := hrel
      clear M1 HB1
      have OW := Lib.hid hown
      have HL := Lib.hid hlim
      have HV := Lib.hid hval
      have HB := Lib.hid hb
      have LN := Lib.hid hlen
      clear hown hlim hval hb hlen
      rcases Nat.lt_or_ge i n with hin | hin
      · obtain ⟨b1, o1, rfl, _, hc1⟩ := (H.out.below HB.out).at_ hin
        have hx := gd_lt (limbs_dg a) i
        have hrow := mul_row_lt (i := i) (limbs_dg a) (show i ≤ (dg a).length by rw [H.out.len]; omega) PB.out
        rw [← HV.out] at hrow
        have HC := Lib.hid (addRow_is (V := val ((dg a).take (i + 1)) * b) (p := i + n' + 1 - i) OW HL LN.out (by omega) (by omega) hrow (H'.out.below HB.out) hx (by omega) (mul_row HV.out rfl))
        clear hrow
        go_wp2_with fail
        refine HC.out.mono ?_; rintro e w2 ⟨ys, rfl, hown2, hlen2, hlim2, hval2, hk2⟩
        have OW2 := Lib.hid hown2
        have HL2 := Lib.hid hlim2
        have HV2 := Lib.hid hval2
        have HB2 := Lib.hid (HB.out.trans (hk2.below (Nat.le_refl _)))
        have LN2 := Lib.hid hlen2
        clear hown2 hlim2 hval2 hk2 hlen2
        go_wp2
        go_roundw
        case rel => exact ⟨i + 1, ys, by omega, by go_num, LN2.out, HL2.out, HV2.out, OW2.out, HB2.out⟩
        case measure => simp [intOf]; omega
      · obtain rfl : i = n := by omega
        have LZ := OW.out.lim HL.out (by rw [LN.out]; omega)
        rw [LN.out] at LZ
        have HLZ := Lib.hid LZ
        clear LZ
        have HE : Hid (val zs = a * b) := by have := HV.out; rwa [List.take_of_length_le (by rw [H.out.len]; exact Nat.le_refl _), val_dg] at this
        go_wp2_with (go_at_call 53; refine (mcut_any _ _ _ _ _ _ HLZ.out HL.out).mono ?_; rintro e w' ⟨⟨A2, n2, c2, rfl, hn2, hA2, h2⟩, rfl⟩; have H2 := Lib.hid h2; have HA2 := Lib.hid hA2; clear h2 hA2)
        go_ret
        refine ⟨_, _, _, rfl, by rw [← HE.out]; exact H2.out, fun ad hA => ?_, HB.out⟩
        rcases HA2.out with h0 | h0
        · rw [h0] at hA; cases hA
        · rw [h0] at hA; injection hA with hA; subst hA; exact Nat.le_refl _

theorem mul_any (A A' : Option Addr) (n c n' c' a b : Nat) (w : World) (h : Num w w.heap.size A n c a) (h' : Num w w.heap.size A' n' c' b) (hn : n ≤ 10000000) (hn' : n' ≤ 10000000) :
    Calls Tryd.prog 44 #[.slice A n c, .slice A' n' c'] w (RetNew w (a * b)) := by
  rcases Nat.lt_or_ge n' n with hlt | hge
  · rw [Nat.mul_comm]
    exact mul_both A' A n' c' n c b a w h' h hn' hn _ (.inr ⟨rfl, hlt⟩)
  · exact mul_both A A' n c n' c' a b w h h' hn hn' _ (.inl ⟨rfl, hge⟩)
theorem mul_is {A A' : Option Addr} {n c n' c' a b m : Nat} {w : World} (h : Num w w.heap.size A n c a) (h' : Num w w.heap.size A' n' c' b) (hn : n ≤ 10000000) (hn' : n' ≤ 10000000) (hm : a * b = m) :
    Calls Tryd.prog 44 #[.slice A n c, .slice A' n' c'] w (RetNum w m) := by
  subst hm; exact (mul_any A A' n c n' c' a b w h h' hn hn').mono fun _ _ h => h.lim

theorem len_of_u64 {N : Nat} (h : N < 18446744073709551616) : (dg N).length ≤ 3 := dg_len_le (by omega)

theorem times_is {A : Option Addr} {n c a l m : Nat} {w : World} (h : Num w w.heap.size A n c a) (hn : n ≤ 10000000) (hl : l < 4294967296) (hm : a * l = m) :
    Calls Tryd.prog 32 #[.slice A n c, .int .u32 l] w (RetNum w m) := by
  have H := Lib.hid h
  have HM := Lib.hid hm
  clear h hm
  go_enter Tryd.func32, Tryd.ntmps32
  go_wp2_with fail
  refine (mk_any l _ rfl (by omega) _).mono ?_; rintro e w1 ⟨A1, n1, c1, rfl, h1, hb1⟩
  have hn1 : n1 ≤ 3 := by have := len_of_u64 (show l < 18446744073709551616 by omega); rwa [h1.len] at this
  have HB1 := Lib.hid hb1
  have H1 := Lib.hid h1
  clear h1 hb1
  go_wp2_with fail
  refine (mul_is ((H.out.below HB1.out).more HB1.out.size) H1.out hn (by omega) HM.out).mono ?_; rintro e w2 ⟨A2, n2, c2, rfl, h2, hb2⟩
  have HB2 := Lib.hid (HB1.out.trans (hb2.mono HB1.out.size))
  have H2 := Lib.hid h2
  clear h2 hb2
  go_wp2_with fail
  go_ret
  exact ⟨_, _, _, rfl, H2.out, HB2.out⟩

end Go.Proofs.YtecgmdomhbmbkaaDoor
