/-
  Contracts of layer 2, the fourth part: Fast, Square.
-/
import Derived.Test.YtenelfclalnfhaaMulC
namespace Go.Proofs.Ytenelfclalnfhaa
open Go.RowKit

set_option maxHeartbeats 400000 in
theorem fast_small (A A' : Option Addr) (n c n' c' a b : Nat) (w : World) (h : Num w w.heap.size A n c a) (h' : Num w w.heap.size A' n' c' b) (hn : n ≤ 1000000) (hn' : n' ≤ 1000000) (hs : n < 40 ∨ n' < 40) :
    Calls Try.prog 48 #[.slice A n c, .slice A' n' c'] w (RetNew w (a * b)) := by
  have H := Lib.hid h
  have H' := Lib.hid h'
  have C := Lib.hid (mul_any A A' n c n' c' a b w h h' (by omega) (by omega))
  clear h h'
  obtain ⟨hlt, hs⟩ | ⟨hlt, hs⟩ : (n' < n ∧ n' < 40) ∨ (n ≤ n' ∧ n < 40) := by omega
  all_goals
    go_enter Try.func48, Try.ntmps48
    go_wp2_with fail
    refine C.out.mono ?_; rintro e w1 ⟨A1, n1, c1, rfl, h1, hf1, hb1⟩
    have H1 := Lib.hid h1
    have HF := Lib.hid hf1
    have HB := Lib.hid hb1
    clear h1 hf1 hb1
    go_wp2_with fail
    go_ret
    exact ⟨_, _, _, rfl, H1.out, HF.out, HB.out⟩

/-- The halves of two numbers, by name. -/
theorem fast_facts {a b n m h : Nat} (hn : (dg a).length = n) (hm : (dg b).length = m) (h1 : n ≤ 2 * h) (h2 : m ≤ 2 * h) (h3 : 2 * h ≤ n + m) :
    ∃ la ha lb hb, a % 1000000000 ^ h = la ∧ a / 1000000000 ^ h = ha ∧ b % 1000000000 ^ h = lb ∧ b / 1000000000 ^ h = hb ∧
      (dg la).length ≤ h ∧ (dg ha).length ≤ n - h ∧ (dg lb).length ≤ h ∧ (dg hb).length ≤ m - h ∧ (dg (la + ha)).length ≤ h + 1 ∧ (dg (lb + hb)).length ≤ h + 1 ∧
      (dg (la * lb)).length ≤ 2 * h ∧ (dg (ha * hb)).length ≤ n + m - 2 * h ∧ la * lb ≤ (la + ha) * (lb + hb) ∧ ha * hb ≤ (la + ha) * (lb + hb) - la * lb ∧
      (la * lb + 1000000000 ^ (2 * h) * (ha * hb)) + 1000000000 ^ h * ((la + ha) * (lb + hb) - la * lb - ha * hb) = a * b :=
  ⟨_, _, _, _, rfl, rfl, rfl, rfl, mod_len a h, div_len hn, mod_len b h, div_len hm, half_len hn h1, half_len hm h2, low_len, high_len hn hm h3, mid_le1 a b h, mid_le2 a b h, kara a b h⟩

theorem Env.two {w : World} {A1 A2 : Option Addr} {n1 n2 c1 c2 a b : Nat} (h1 : Num w w.heap.size A1 n1 c1 a) (h2 : Num w w.heap.size A2 n2 c2 b) : Hid (Env w w [(A1, n1, c1, a), (A2, n2, c2, b)]) := by
  refine ⟨Below.refl _ _, fun q hq => ?_⟩
  rcases List.mem_cons.1 hq with rfl | hq
  · exact h1
  · rcases List.mem_cons.1 hq with rfl | hq
    · exact h2
    · cases hq
theorem halves_is {A : Option Addr} {n c a k x y : Nat} {v : Int} {w : World} (h : Num w w.heap.size A n c a) (hn0 : 0 < n) (hk0 : 0 < k) (hk : k ≤ 1000000000) (hv : v = k) (hx : a % 1000000000 ^ k = x) (hy : a / 1000000000 ^ k = y) :
    Calls Try.prog 55 #[.slice A n c, .int .i64 v] w (RetHalves w x y) := by
  subst hv; subst hx; subst hy
  exact halves_any A n c a k w h hn0 hk0 hk

theorem vals_splice (L cs : List Nat) (off : Nat) : splice (vals L) off (vals cs) = vals (splice L off cs) := by
  simp [splice, vals, List.map_append, List.map_take, List.map_drop]
theorem own_spliced {w : World} {g off : Nat} {L cs : List Nat} (h : Hid (w.heap[g]? = some (.cells (splice (vals L) off (vals cs)).toArray 24 (0, 0)))) : Hid (Own w g (splice L off cs)) := by
  have := h.out
  rw [vals_splice] at this
  exact this
theorem copy_ok {w : World} {B n c k off : Nat} {A : Option Addr} {xs L : List Nat} (h : Lim w B A n c xs) (hk : n ≤ k) (hl : off + k ≤ L.length) : (vals xs).length = Nat.min n k ∧ off + (vals xs).length ≤ (vals L).length := by
  rw [vals_len, vals_len, h.len]
  exact ⟨(Nat.min_eq_left hk).symm, by omega⟩

theorem madd_is {A' : Option Addr} {g n' c' m a B V : Nat} {zs : List Nat} {w : World} (o r : Nat) (ho : Hid (Own w g zs)) (hl : Hid (limbs zs)) (hm : zs.length = m) (hor : o + r = m) (hmm : m ≤ 1000000000)
    (h' : Num w B A' n' c' a) (hoff : 0 < n' → Off g A') {cr : Nat} (hcr : r ≤ cr) (hV : val zs + 1000000000 ^ o * a = V) (hfit : V < 1000000000 ^ m) :
    Calls Try.prog 56 #[.slice (some ⟨g, o, none⟩) r cr, .slice A' n' c'] w (RetRoom w g m V) := by
  subst hV
  exact madd_any (some ⟨g, o, none⟩) A' g o r n' c' m a B zs w ho hl hm hor hmm (fun _ => rfl) h' hoff hfit cr hcr
theorem own_lim_is {w : World} {g m : Nat} {zs : List Nat} (h : Own w g zs) (hz : limbs zs) (hl : zs.length = m) (hm : m ≤ 1000000000000) : Lim w w.heap.size (some ⟨g, 0, none⟩) m m zs := by
  subst hl; exact h.lim hz hm

/-- Two numbers are laid into a room of noughts: the first one at its head, the second one at place p. -/
theorem two_laid {N p x y : Nat} (h1 : (dg x).length ≤ p) (h2 : p + (dg y).length ≤ N) :
    (splice (splice (List.replicate N 0) 0 (dg x)) p (dg y)).length = N ∧ limbs (splice (splice (List.replicate N 0) 0 (dg x)) p (dg y)) ∧ val (splice (splice (List.replicate N 0) 0 (dg x)) p (dg y)) = x + 1000000000 ^ p * y := by
  have e1 : 0 + (dg x).length ≤ (List.replicate N 0).length := by simp; omega
  have e2 : p + (dg y).length ≤ (splice (List.replicate N 0) 0 (dg x)).length := by
    rw [splice, len_splice e1]; simp; omega
  refine ⟨?_, ?_, ?_⟩
  · rw [splice, len_splice e2, splice, len_splice e1]; simp
  · exact limbs_splice (limbs_splice (zeros_limbs _) (limbs_dg x)) (limbs_dg y)
  · rw [splice, val_splice e2, splice, val_splice e1, val_zeros, val_dg, val_dg]
    · simp
    · intro j _; exact gd_zeros _ _
    · intro j hj; exact gd_splice e1 (fun j _ => gd_zeros _ _) j (by omega)

/-- Numbers of at most k limbs are multiplied. -/
def FastTo (k : Nat) : Prop := ∀ (A A' : Option Addr) (n c n' c' a b m : Nat) (w : World), Num w w.heap.size A n c a → Num w w.heap.size A' n' c' b → n ≤ k → n' ≤ k → a * b = m → Calls Try.prog 48 #[.slice A n c, .slice A' n' c'] w (RetNew w m)

set_option maxHeartbeats 2000000 in
set_option maxRecDepth 100000 in
theorem fast_big (k : Nat) (ih : Hid (FastTo k)) (hk : k < 1000000) (A A' : Option Addr) (n c n' c' a b : Nat) (w : World) (h : Num w w.heap.size A n c a) (h' : Num w w.heap.size A' n' c' b) (hn : n ≤ k + 1) (hn' : n' ≤ k + 1) (hb1 : 40 ≤ n) (hb2 : 40 ≤ n') :
    Calls Try.prog 48 #[.slice A n c, .slice A' n' c'] w (RetNew w (a * b)) := by
  obtain ⟨i0, hi, hz0, hz1, hz2⟩ := info_parts info_limb
  have E := Env.two h h'
  have LA := Lib.hid h.len
  have LB := Lib.hid h'.len
  clear h h'
  obtain ⟨half, hh1, hh2, hh3, hh4, hh5, hh⟩ : ∃ half, n ≤ 2 * half ∧ n' ≤ 2 * half ∧ 2 * half < n + n' ∧ half + 1 ≤ k ∧ 0 < half ∧ ((n < n' ∧ n ≤ n' ∧ half = (n' + 1) / 2) ∨ (n' < n ∧ n' ≤ n ∧ half = (n + 1) / 2) ∨ (n ≤ n' ∧ n' ≤ n ∧ half = (n + 1) / 2)) := by
    rcases Nat.lt_trichotomy n n' with h1 | h1 | h1
    · exact ⟨(n' + 1) / 2, by omega, by omega, by omega, by omega, by omega, .inl ⟨h1, by omega, rfl⟩⟩
    · exact ⟨(n + 1) / 2, by omega, by omega, by omega, by omega, by omega, .inr (.inr ⟨by omega, by omega, rfl⟩)⟩
    · exact ⟨(n + 1) / 2, by omega, by omega, by omega, by omega, by omega, .inr (.inl ⟨h1, by omega, rfl⟩)⟩
  obtain ⟨la, ha, lb, hb, ea1, ea2, eb1, eb2, k1, k2, k3, k4, k5, k6, k7, k8, k9, k10, k11⟩ := fast_facts LA.out LB.out hh1 hh2 (by omega)
  have K1 := Lib.hid k1
  have K2 := Lib.hid k2
  have K3 := Lib.hid k3
  have K4 := Lib.hid k4
  have K5 := Lib.hid k5
  have K6 := Lib.hid k6
  have K7 := Lib.hid k7
  have K8 := Lib.hid k8
  have K9 := Lib.hid k9
  have K10 := Lib.hid k10
  have K11 := Lib.hid k11
  have EA1 := Lib.hid ea1
  have EA2 := Lib.hid ea2
  have EB1 := Lib.hid eb1
  have EB2 := Lib.hid eb2
  clear k1 k2 k3 k4 k5 k6 k7 k8 k9 k10 k11 ea1 ea2 eb1 eb2
  rcases hh with ⟨hlt, hlt2, hh⟩ | ⟨hlt, hlt2, hh⟩ | ⟨hlt, hlt2, hh⟩
  all_goals
    have HH := Lib.hid hh
    clear hh
    go_enter Try.func48, Try.ntmps48
    go_wp2_with fail
    first
      | rw [show ((n' : Int) + 1) / 2 = (half : Int) from by have := HH.out; omega]
      | rw [show ((n : Int) + 1) / 2 = (half : Int) from by have := HH.out; omega]
    refine (halves_is (k := half) (Env.get E (A := A) (n := n) (c := c) (a := a) (by simp)) (by omega) (by omega) (by omega) rfl EA1.out EA2.out).mono ?_; rintro e w1 ⟨A1, n1, c1, A2, n2, c2, rfl, h1, h2, hb⟩; replace E := Env.push E hb h1; replace E := Env.push E (Below.refl _ _) h2
    clear h1 h2 hb
    go_wp2_with fail
    refine (halves_is (k := half) (Env.get E (A := A') (n := n') (c := c') (a := b) (by simp)) (by omega) (by omega) (by omega) rfl EB1.out EB2.out).mono ?_; rintro e w2 ⟨A3, n3, c3, A4, n4, c4, rfl, h1, h2, hb⟩; replace E := Env.push E hb h1; replace E := Env.push E (Below.refl _ _) h2
    have L1 := (Env.get E (A := A1) (n := n1) (c := c1) (a := la) (by simp)).len
    have L2 := (Env.get E (A := A2) (n := n2) (c := c2) (a := ha) (by simp)).len
    have M1 : n1 ≤ half := by have := K1.out; omega
    have M2 : n2 ≤ n - half := by have := K2.out; omega
    have M3 : n3 ≤ half := by have := K3.out; have := h1.len; omega
    have M4 : n4 ≤ n' - half := by have := K4.out; have := h2.len; omega
    clear h1 h2 hb L1 L2
    go_wp2_with fail
    refine (ih.out A1 A3 n1 c1 n3 c3 la lb (la * lb) _ (Env.get E (by simp)) (Env.get E (by simp)) (by omega) (by omega) rfl).mono ?_; rintro e w3 ⟨A5, n5, c5, rfl, h1, hf, hb⟩; replace E := Env.push E hb h1
    have M5 : n5 ≤ 2 * half := by have := K7.out; have := h1.len; omega
    clear h1 hf hb
    go_wp2_with fail
    refine (ih.out A2 A4 n2 c2 n4 c4 ha hb (ha * hb) _ (Env.get E (by simp)) (Env.get E (by simp)) (by omega) (by omega) rfl).mono ?_; rintro e w4 ⟨A6, n6, c6, rfl, h1, hf, hb⟩; replace E := Env.push E hb h1
    have M6 : n6 ≤ n + n' - 2 * half := by have := K8.out; have := h1.len; omega
    clear h1 hf hb
    go_wp2_with fail
    refine (add_is (a := la) (b := ha) (m := la + ha) (Env.get E (A := A1) (n := n1) (c := c1) (by simp)) (Env.get E (by simp)) (by omega) (by omega) rfl).mono ?_; rintro e w5 ⟨A7, n7, c7, rfl, h1, hb⟩; replace E := Env.push E hb h1
    have M7 : n7 ≤ half + 1 := by have := K5.out; have := h1.len; omega
    clear h1 hb
    go_wp2_with fail
    refine (add_is (a := lb) (b := hb) (m := lb + hb) (Env.get E (A := A3) (n := n3) (c := c3) (by simp)) (Env.get E (by simp)) (by omega) (by omega) rfl).mono ?_; rintro e w6 ⟨A8, n8, c8, rfl, h1, hbb⟩; replace E := Env.push E hbb h1
    have M8 : n8 ≤ half + 1 := by have := K6.out; have := h1.len; omega
    clear h1 hbb
    go_wp2_with fail
    refine (ih.out A7 A8 n7 c7 n8 c8 (la + ha) (lb + hb) ((la + ha) * (lb + hb)) _ (Env.get E (by simp)) (Env.get E (by simp)) (by omega) (by omega) rfl).mono ?_; rintro e w7 ⟨A9, n9, c9, rfl, h1, hf, hbb⟩; replace E := Env.push E hbb h1
    have M9 : n9 ≤ 2 * half + 2 := by have := dg_len_mul (la + ha) (lb + hb); have := K5.out; have := K6.out; have := h1.len; omega
    clear h1 hf hbb
    go_wp2_with fail
    refine (sub_is (a := (la + ha) * (lb + hb)) (b := la * lb) (m := (la + ha) * (lb + hb) - la * lb) (Env.get E (A := A9) (n := n9) (c := c9) (by simp)) (Env.get E (A := A5) (n := n5) (c := c5) (by simp)) (by omega) K9.out rfl).mono ?_; rintro e w8 ⟨A10, n10, c10, rfl, h1, hbb⟩; replace E := Env.push E hbb h1
    have M10 : n10 ≤ 2 * half + 2 := by have := dg_len_mono (Nat.sub_le ((la + ha) * (lb + hb)) (la * lb)); have := dg_len_mul (la + ha) (lb + hb); have := K5.out; have := K6.out; have := h1.len; omega
    clear h1 hbb
    go_wp2_with fail
    refine (sub_is (a := (la + ha) * (lb + hb) - la * lb) (b := ha * hb) (m := (la + ha) * (lb + hb) - la * lb - ha * hb) (Env.get E (A := A10) (n := n10) (c := c10) (by simp)) (Env.get E (A := A6) (n := n6) (c := c6) (by simp)) (by omega) K10.out rfl).mono ?_; rintro e w9 ⟨A11, n11, c11, rfl, h1, hbb⟩; replace E := Env.push E hbb h1
    have OFF : Hid (0 < n11 → Off w9.heap.size A11) := fun hp => h1.off (Nat.le_refl _) hp
    clear h1 hbb
    have PAB := Lib.hid (mul_lt_pow (pow_of_len LA.out (Nat.le_refl _)) (pow_of_len LB.out (Nat.le_refl _)))
    have S5 := Lib.hid (Env.get E (A := A5) (n := n5) (c := c5) (a := la * lb) (by simp))
    have S6 := Lib.hid (Env.get E (A := A6) (n := n6) (c := c6) (a := ha * hb) (by simp))
    have S11 := Lib.hid (Env.get E (A := A11) (n := n11) (c := c11) (a := (la + ha) * (lb + hb) - la * lb - ha * hb) (by simp))
    have HB0 := Lib.hid E.out.1
    have HSZ := Lib.hid E.out.1.size
    clear E
    have TL := Lib.hid (two_laid (N := n + n') (p := 2 * half) (x := la * lb) (y := ha * hb) K7.out (by have := K8.out; omega))
    have hN : 2 * half < n + n' := hh3
    have L11 : Hid ((splice (List.replicate (n + n') 0) 0 (dg (la * lb))).length = n + n') := by show _ = _; rw [length_splice]; simp; have := K7.out; simp; omega
    go_wp2_with (first | (at_make; go_must (refine wpList_make_full _ rfl _ _ 23 rfl w9.heap.size 24 i0 (.int .u32 0) 1 Try.underlying23 hi hz0 hz1 _ _ _ _ (n + n') rfl rfl (by omega) (by omega) (by rw [hz2]; omega) (by unfold maxLen; omega) (Nat.le_refl _) ?_; intro w10 hown1 hgr1; have O10 : Hid (Own w10 w9.heap.size (List.replicate (n + n') 0)) := Own.of_made hown1; have HB10 : Hid (Below w9.heap.size w9 w10) := (Below.refl _ _).grown hgr1 (Nat.le_refl _) (fun k hk => by cases hk); clear hown1 hgr1)) | ((with_reducible show wpList _ _ _ (⟨some 84, _, _, _, _, _⟩ :: _) _ _); go_must (refine wpList_copy_splice rfl (.tmp 82) (.tmp 83) 23 23 rfl 24 Try.underlying23 info_one _ _ _ _ _ _ rfl rfl w9.heap.size 0 (vals (List.replicate (n + n') 0)) 24 O10.out (vals (dg (la * lb))) (copy_ok (L := List.replicate (n + n') 0) (off := 0) S5.out M5 (by simp; omega)).1 (fun hp => ⟨rfl, lim_src (S5.out.below HB10.out) hp⟩) (copy_ok (L := List.replicate (n + n') 0) (off := 0) S5.out M5 (by simp; omega)).2 (vals_one _) w9.heap.size w9 HB10.out (Nat.le_refl _) ?_; intro w11 hg2 hb2; have O11 := own_spliced hg2; have HB11 := Lib.hid hb2; clear hg2 hb2)) | ((with_reducible show wpList _ _ _ (⟨some 90, _, _, _, _, _⟩ :: _) _ _); go_must (refine wpList_copy_splice rfl (.tmp 88) (.tmp 89) 23 23 rfl 24 Try.underlying23 info_one _ _ _ _ _ _ rfl rfl w9.heap.size (2 * half) (vals (splice (List.replicate (n + n') 0) 0 (dg (la * lb)))) 24 O11.out (vals (dg (ha * hb))) (copy_ok (L := splice (List.replicate (n + n') 0) 0 (dg (la * lb))) (off := 2 * half) S6.out M6 (by rw [L11.out]; omega)).1 (fun hp => ⟨rfl, lim_src (S6.out.below HB11.out) hp⟩) (copy_ok (L := splice (List.replicate (n + n') 0) 0 (dg (la * lb))) (off := 2 * half) S6.out M6 (by rw [L11.out]; omega)).2 (vals_one _) w9.heap.size w9 HB11.out (Nat.le_refl _) ?_; intro w12 hg2 hb2; have O12 := own_spliced hg2; have HB12 := Lib.hid hb2; clear hg2 hb2; have HC := Lib.hid (madd_is (half) (n + n' - half) O12 TL.out.2.1 TL.out.1 (by omega) (by omega) (S11.out.below HB12.out) OFF.out (Nat.le_refl _) (by rw [TL.out.2.2]; exact K11.out) PAB.out))) | (go_at_call 56; go_must (refine HC.out.mono ?_; rintro e w13 ⟨zs, rfl, hown, hlen, hlim, hval, hkp⟩; have OZ := Lib.hid hown; have LZ := Lib.hid hlen; have HL := Lib.hid hlim; have HV := Lib.hid hval; have HB13 := Lib.hid (HB12.out.trans (hkp.below (Nat.le_refl _))); clear hown hlen hlim hval hkp; have LL := Lib.hid (own_lim_is OZ.out HL.out LZ.out (by omega)))) | (go_at_call 45; go_must (refine (mcut_any _ _ _ _ _ _ LL.out HL.out).mono ?_; rintro e w' ⟨⟨A12, n12, c12, rfl, hn12, hA12, h12⟩, rfl⟩; have H12 := Lib.hid h12; have HA12 := Lib.hid hA12; clear h12 hA12)))
    go_ret
    refine ⟨_, _, _, rfl, by rw [← HV.out]; exact H12.out, fun ad hA => ?_, HB0.out.trans (HB13.out.mono HSZ.out)⟩
    rcases HA12.out with h0 | h0
    · rw [h0] at hA; cases hA
    · rw [h0] at hA; injection hA with hA; subst hA; exact HSZ.out

theorem fast_to (k : Nat) (hk : k ≤ 1000000) : FastTo k := by
  induction k with
  | zero =>
    intro A A' n c n' c' a b m w h h' hn hn' hm
    subst hm
    exact fast_small A A' n c n' c' a b w h h' (by omega) (by omega) (by omega)
  | succ k ih =>
    intro A A' n c n' c' a b m w h h' hn hn' hm
    subst hm
    by_cases hs : n < 40 ∨ n' < 40
    · exact fast_small A A' n c n' c' a b w h h' (by omega) (by omega) hs
    · exact fast_big k (ih (by omega)) (by omega) A A' n c n' c' a b w h h' hn hn' (by omega) (by omega)
theorem fast_is {A A' : Option Addr} {n c n' c' a b m : Nat} {w : World} (h : Num w w.heap.size A n c a) (h' : Num w w.heap.size A' n' c' b) (hn : n ≤ 1000000) (hn' : n' ≤ 1000000) (hm : a * b = m) :
    Calls Try.prog 48 #[.slice A n c, .slice A' n' c'] w (RetNew w m) := fast_to 1000000 (Nat.le_refl _) A A' n c n' c' a b m w h h' hn hn' hm

theorem square_is {A : Option Addr} {n c a m : Nat} {w : World} (h : Num w w.heap.size A n c a) (hn : n ≤ 1000000) (hm : a * a = m) :
    Calls Try.prog 29 #[.slice A n c] w (RetNum w m) := by
  have C := Lib.hid (fast_is h h hn hn hm)
  clear h hm
  go_enter Try.func29, Try.ntmps29
  go_wp2_with fail
  refine C.out.mono ?_; rintro e w1 ⟨A1, n1, c1, rfl, h1, _, hb1⟩
  have H1 := Lib.hid h1
  have HB1 := Lib.hid hb1
  clear h1 hb1
  go_wp2_with fail
  go_ret
  exact ⟨_, _, _, rfl, H1.out, HB1.out⟩

end Go.Proofs.Ytenelfclalnfhaa
