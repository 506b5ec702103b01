/-
  Contracts of layer 1: Small; the document's Make and Trim.
-/
import Derived.Test.YtecgmdomhbmbkaaDoorNatC
namespace Go.Proofs.YtecgmdomhbmbkaaDoor
open Go.RowKit

/-- The greatest of 64 bits. -/
def top64 : Nat := 18446744073709551615

theorem val_drop_le (a k : Nat) : val ((dg a).drop k) ≤ a := by
  rcases Nat.lt_or_ge (dg a).length k with h | h
  · rw [List.drop_of_length_le (by omega)]; exact Nat.zero_le _
  · have e := val_take_drop (dg a) k h
    rw [val_dg] at e
    have : 1 * val ((dg a).drop k) ≤ 1000000000 ^ k * val ((dg a).drop k) := Nat.mul_le_mul_right _ (Nat.one_le_pow _ _ (by omega))
    omega
theorem small_step {a k : Nat} (ha : a ≤ top64) (hk : 0 < k) : IntKind.u64.wrap (IntKind.u64.wrap (((val ((dg a).drop k) : Nat) : Int) * 1000000000) + ((gd (dg a) (k - 1) : Nat) : Int)) = ((val ((dg a).drop (k - 1)) : Nat) : Int) := by
  have e := val_drop (dg a) (k - 1)
  have hle := val_drop_le a (k - 1)
  rw [show k - 1 + 1 = k by omega] at e
  unfold top64 at ha
  rw [IntWalk.u64_in (((val ((dg a).drop k) : Nat) : Int) * 1000000000) ⟨by omega, by omega⟩, IntWalk.u64_in _ ⟨by omega, by omega⟩]
  omega

theorem ret_small {a b : Int} {t : Bool} (h : a = b) : Ending.returned (.tuple #[.int .u64 a, .bool t]) = .returned (.tuple #[.int .u64 b, .bool t]) := by rw [h]

theorem make_top (w : World) : Calls Tryd.prog 45 #[.int .u64 18446744073709551615] w (RetNum w top64) :=
  make_any top64 (show _ < _ by decide) w

theorem own_below {w w' : World} {base : Nat} {e : TypeId} {v : Value} {n : Nat} {xs : List Value} (h : w.ownsRow base e 1 v n xs) (hb : Below w.heap.size w w') : w'.ownsRow base e 1 v n xs :=
  h.kept (row := none) ⟨hb.os, hb.tape, hb.output, hb.size, fun k hk _ => hb.block k hk⟩ (by
    cases hv : v.ownBlock with
    | none => exact .inl rfl
    | some g => exact .inr (by simp))

theorem own_block_le {b n c g : Nat} (h : (Value.slice (some ⟨b, 0, none⟩) n c).ownBlock = some g) : b ≤ g := by
  have : b = g := by simpa [Value.ownBlock] using h
  omega

theorem own_one (w : World) (x : Nat) (v : Int) (hv : v = x) (base : Nat) (hbase : base ≤ w.heap.size) : (w.alloc (.cells #[.int .u32 v] 36)).ownsRow base 36 1 (.slice (some ⟨w.heap.size, 0, none⟩) 1 1) 1 (vals [x]) := by
  subst hv
  exact World.ownsRow_lit w #[.int .u32 (x : Int)] 1 hbase (by simp [maxLen]) rfl

theorem dg_len_div {N : Nat} (h : N < 18446744073709551616) : (dg (N / 1000000000)).length ≤ 3 := dg_len_le (by omega)

set_option maxHeartbeats 400000 in
theorem refMake_any (k : Nat) : ∀ (N : Nat) (w : World), Hid (N < 18446744073709551616) → Hid ((dg N).length ≤ k) →
    Calls Tryd.prog 26 #[.int .u64 N] w (RetNum w N) := by
  obtain ⟨i0, hi, hz0, hz1, hz2⟩ := info_parts info_limb
  induction k with
  | zero =>
    intro N w hN hk
    obtain rfl : N = 0 := dg_eq_nil.1 (List.eq_nil_of_length_eq_zero (by have := hk.out; omega))
    go_enter Tryd.func26, Tryd.ntmps26
    go_wp2_with fail
    go_ret
    exact ⟨_, _, _, rfl, by rw [dg_zero]; exact Lim.nil, Below.refl _ _⟩
  | succ k ih =>
    intro N w hN hk
    rcases Nat.eq_zero_or_pos N with h0 | h0
    · subst h0
      go_enter Tryd.func26, Tryd.ntmps26
      go_wp2_with fail
      go_ret
      exact ⟨_, _, _, rfl, by rw [dg_zero]; exact Lim.nil, Below.refl _ _⟩
    · have IH := Lib.hid (fun W => ih (N / 1000000000) W (show _ < _ by have := hN.out; omega) (show _ ≤ _ by have := hk.out; rw [dg_pos h0, List.length_cons] at this; omega))
      clear ih hk
      have hdiv : IntKind.u64.wrap ((N : Int) / 1000000000) = ((N / 1000000000 : Nat) : Int) := u64_div (Nat.le_refl _) hN.out
      have HD := Lib.hid hdiv
      clear hdiv
      go_enter Tryd.func26, Tryd.ntmps26
      go_wp2_with fail
      rw [HD.out]
      refine (IH.out _).mono ?_
      rintro e w2 ⟨A2, n2, c2, rfl, h2, hb2⟩
      have O1 := Lib.hid (own_below (own_one w (N % 1000000000) ((N : Int) % 1000000000) (by omega) w.heap.size (Nat.le_refl _)) hb2)
      have hn2 : n2 ≤ 3 := by have := dg_len_div hN.out; rw [h2.len] at this; exact this
      have hs2 : w.heap.size ≤ w2.heap.size := Nat.le_trans (by simp) hb2.size
      have HB2 : Hid (Below w.heap.size w w2) := ((Below.refl _ _).alloc (Nat.le_refl _) _).trans (hb2.mono (by simp))
      have H2 := Lib.hid h2
      clear h2 hb2
      go_wp2_with (at_builtin; go_must (refine wpList_append_lim rfl (.tmp 8) (.tmp 11) 23 23 rfl w.heap.size 36 36 i0 Tryd.underlying23 Tryd.underlying23 hi hz0 hz1 hz2 (some ⟨w.heap.size, 0, none⟩) 1 1 [N % 1000000000] rfl O1.out _ A2 n2 c2 _ rfl H2.out (by omega) hs2 ?_; intro A3 c3 w3 hown hgr))
      go_ret
      have e : [N % 1000000000] ++ dg (N / 1000000000) = dg N := (dg_pos h0).symm
      rw [e] at hown
      exact ⟨_, _, _, rfl, Lim.of_own hown (fun x hx => by have := limbs_dg _ x hx; omega), HB2.out.grown hgr hs2 (fun g hg => own_block_le hg)⟩

theorem refMake_top (w : World) : Calls Tryd.prog 26 #[.int .u64 18446744073709551615] w (RetNum w top64) :=
  refMake_any 3 top64 w (show _ < _ by decide) (show _ ≤ _ from dg_len_le (by decide))

theorem refSmall_no (A : Option Addr) (n c a : Nat) (w : World) (h : Num w w.heap.size A n c a) (ha : top64 < a) :
    Calls Tryd.prog 43 #[.slice A n c] w (RetVal w (.tuple #[.int .u64 0, .bool false])) := by
  have H := Lib.hid h
  have E := Lib.hid (cmpN_gt ha)
  clear h ha
  go_enter Tryd.func43, Tryd.ntmps43
  go_wp2_with (first | (go_at_call 26; refine (refMake_top _).mono ?_; rintro e w1 ⟨A1, n1, c1, rfl, h1, hb1⟩; have H1 := Lib.hid h1; have HB1 := Lib.hid hb1; clear h1 hb1) | (go_at_call 30; refine (refCmp_any A A1 n c n1 c1 a top64 w1 ((H.out.below HB1.out).more HB1.out.size) H1.out).mono ?_; rintro e w2 ⟨rfl, hb2⟩; have HB2 := Lib.hid (HB1.out.trans (hb2.mono HB1.out.size)); clear hb2; rw [E.out]))
  go_ret2
  exact ⟨rfl, HB2.out⟩

set_option maxHeartbeats 400000 in
theorem refSmall_yes (A : Option Addr) (n c a : Nat) (w : World) (h : Num w w.heap.size A n c a) (ha : a ≤ top64) :
    Calls Tryd.prog 43 #[.slice A n c] w (RetVal w (.tuple #[.int .u64 a, .bool true])) := by
  have hm := h.room
  have hn := h.cap
  unfold maxLen at hm
  have H := Lib.hid h
  have HA := Lib.hid ha
  have hc : cmpN a top64 ≤ 0 := by
    rcases Int.lt_or_le 0 (cmpN a top64) with h1 | h1
    · rw [cmpN_pos] at h1; omega
    · exact h1
  have CC : Hid (∀ (A' : Option Addr) (n' c' : Nat) (w : World), Num w w.heap.size A n c a → Num w w.heap.size A' n' c' top64 → Calls Tryd.prog 30 #[.slice A n c, .slice A' n' c'] w (RetVal w (.int .i64 (cmpN a top64)))) :=
    fun A' n' c' w h1 h2 => refCmp_any A A' n c n' c' a top64 w h1 h2
  clear h ha
  generalize cmpN a top64 = s at *
  go_enter Tryd.func43, Tryd.ntmps43
  go_wp2_with (first | (go_at_call 26; refine (refMake_top _).mono ?_; rintro e w1 ⟨A1, n1, c1, rfl, h1, hb1⟩; have H1 := Lib.hid h1; have HB1 := Lib.hid hb1; clear h1 hb1) | (go_at_call 30; refine (CC.out A1 n1 c1 w1 ((H.out.below HB1.out).more HB1.out.size) H1.out).mono ?_; rintro e w2 ⟨rfl, hb2⟩; have HB2 := Lib.hid (HB1.out.trans (hb2.mono HB1.out.size)); clear hb2))
  clear hc CC
  go_loop [4, 5] (fun v i => ∃ k : Nat, k ≤ n ∧ i = .int .i64 ((k : Int) - 1) ∧ v = .int .u64 (val ((dg a).drop k) : Nat)) (fun _ i => (intOf i + 1).toNat)
  case atStart => exact ⟨n, Nat.le_refl _, rfl, ret_u64 (by rw [List.drop_of_length_le (by rw [H.out.len]; exact Nat.le_refl _)]; rfl)⟩
  case round =>
    obtain ⟨k, hk, rfl, rfl⟩ := hrel
    rcases Nat.eq_zero_or_pos k with h0 | h0
    · subst h0
      go_wp2
      go_ret2
      exact ⟨ret_small (by rw [val_dg]), HB2.out⟩
    · obtain ⟨b, o, rfl, _, hc⟩ := (H.out.below HB2.out).at_ (show k - 1 < n by omega)
      have hg := gd_lt (limbs_dg a) (k - 1)
      go_wp2
      go_round
      case rel => exact ⟨k - 1, by omega, by go_num, ret_u64 (small_step HA.out h0)⟩
      case measure => simp [intOf]; omega


theorem trim_last {xs : List Nat} {n : Nat} (hl : xs.length = n) (hn : 0 < n) (h : gd xs (n - 1) = 0) : val xs = val (xs.take (n - 1)) := by
  have e := val_take_drop xs (n - 1) (by omega)
  rw [val_drop, h, List.drop_of_length_le (by omega), val] at e
  omega

/-- Nothing to take off. -/
theorem refTrim_end (A : Option Addr) (n c : Nat) (xs : List Nat) (w : World) (H : Hid (Lim w w.heap.size A n c xs)) (HX : Hid (limbs xs)) (hn : n ≤ 1000000000) (h0 : n = 0 ∨ gd xs (n - 1) ≠ 0) :
    Calls Tryd.prog 35 #[.slice A n c] w (RetLim w (dg (val xs))) := by
  obtain ⟨i0, hi, hz0, hz1, hz2⟩ := info_parts info_limb
  have E : Hid (dg (val xs) = xs) := by
    have := dg_cut HX.out (n := n) (fun j hj => gd_of_ge (by rw [H.out.len]; exact hj)) h0 (by rw [H.out.len]; exact Nat.le_refl _)
    rwa [List.take_of_length_le (by rw [H.out.len]; exact Nat.le_refl _)] at this
  have hm := H.out.room
  have hcap := H.out.cap
  unfold maxLen at hm
  rcases Nat.eq_zero_or_pos n with hn0 | hn0
  · subst hn0
    clear h0
    go_enter Tryd.func35, Tryd.ntmps35
    go_wp2_with (at_builtin; go_must (refine wpList_append_lim rfl (.const (.slice none 0 0)) (.tmp 21) 23 22 rfl w.heap.size 36 36 i0 Tryd.underlying23 Tryd.underlying22 hi hz0 hz1 hz2 none 0 0 [] rfl (World.ownsRow_nil _ _ _ _) _ A 0 c xs rfl H.out (by omega) (Nat.le_refl _) ?_; intro A2 c2 w2 hown hgr))
    go_ret
    exact ⟨_, _, _, rfl, by rw [E.out]; exact Lim.of_own hown H.out.fit, (Below.refl _ _).grown hgr (Nat.le_refl _) (fun k hk => by cases hk)⟩
  · have hne : gd xs (n - 1) ≠ 0 := by omega
    have hd : (((gd xs (n - 1) : Nat) : Int) == 0) = false := by simp; omega
    obtain ⟨b, o, rfl, _, hc⟩ := H.out.at_ (show n - 1 < n by omega)
    clear h0 hne
    go_enter Tryd.func35, Tryd.ntmps35
    go_wp2_with (at_builtin; go_must (refine wpList_append_lim rfl (.const (.slice none 0 0)) (.tmp 21) 23 22 rfl w.heap.size 36 36 i0 Tryd.underlying23 Tryd.underlying22 hi hz0 hz1 hz2 none 0 0 [] rfl (World.ownsRow_nil _ _ _ _) _ _ n c xs rfl H.out (by omega) (Nat.le_refl _) ?_; intro A2 c2 w2 hown hgr; simp only [Nat.zero_add, List.nil_append] at hown))
    go_ret
    exact ⟨_, _, _, rfl, by rw [E.out]; exact Lim.of_own hown H.out.fit, (Below.refl _ _).grown hgr (Nat.le_refl _) (fun k hk => by cases hk)⟩

theorem refTrim_any (k : Nat) : ∀ (A : Option Addr) (n c : Nat) (xs : List Nat) (w : World), Hid (Lim w w.heap.size A n c xs) → Hid (limbs xs) → n ≤ k → n ≤ 1000000000 →
    Calls Tryd.prog 35 #[.slice A n c] w (RetLim w (dg (val xs))) := by
  induction k with
  | zero => exact fun A n c xs w H HX hk hn => refTrim_end A n c xs w H HX hn (.inl (by omega))
  | succ k ih =>
    intro A n c xs w H HX hk hn
    by_cases h0 : n = 0 ∨ gd xs (n - 1) ≠ 0
    · exact refTrim_end A n c xs w H HX hn h0
    · have hn0 : 0 < n := by omega
      have hz : gd xs (n - 1) = 0 := by omega
      have hd : (((gd xs (n - 1) : Nat) : Int) == 0) = true := by simp; omega
      have E := Lib.hid (trim_last H.out.len hn0 hz)
      have hm := H.out.room
      have hcap := H.out.cap
      unfold maxLen at hm
      have IH := Lib.hid (ih A (n - 1) c (xs.take (n - 1)) w (H.out.take (by omega)) (limbs_take HX.out _) (by omega) (by omega))
      obtain ⟨b, o, rfl, _, hc⟩ := H.out.at_ (show n - 1 < n by omega)
      clear h0 hz ih hk
      go_enter Tryd.func35, Tryd.ntmps35
      go_wp2_with (go_at_call 35; go_must (refine IH.out.mono ?_; rintro e w' ⟨A2, n2, c2, rfl, h2, hb2⟩; have H2 := Lib.hid h2; have HB2 := Lib.hid hb2; clear h2 hb2))
      go_ret
      exact ⟨_, _, _, rfl, by rw [E.out]; exact H2.out, HB2.out⟩

end Go.Proofs.YtecgmdomhbmbkaaDoor
