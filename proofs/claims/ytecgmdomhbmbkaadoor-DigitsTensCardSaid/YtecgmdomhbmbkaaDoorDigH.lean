/-
  Layer 4: the contracts as the laws ask for them; the law's own examples (awake) answer true, whatever the memory.
-/
import Derived.Test.YtecgmdomhbmbkaaDoorDigP
import Derived.Test.YtecgmdomhbmbkaaDoorMulH
namespace Go.Proofs.YtecgmdomhbmbkaaDoor
open Go.RowKit

theorem parse_yes {s : ByteArray} {l : List Nat} {m : Nat} (hc : codes s = l) (hd : digs l) (hm : pv l = m) (h0 : 0 < l.length) (hs : l.length ≤ 1000000) (w : World) :
    Calls Tryd.prog 8 #[.string s] w (RetSub w m) := by
  subst hc; subst hm
  rw [codes_len] at h0 hs
  refine (parse_any s w h0 hs).mono fun e w' h => ?_
  rcases h with ⟨_, h⟩ | ⟨h, _⟩
  · exact h
  · exact absurd hd h
theorem parse_is {s : ByteArray} {l : List Nat} {m : Nat} (hc : codes s = l) (hd : digs l) (hm : pv l = m) (h0 : 0 < l.length) (hs : l.length ≤ 1000000) (w : World) :
    Calls Tryd.prog 8 #[.string s] w (RetSub w m) := parse_yes hc hd hm h0 hs w
theorem parse_no {s : ByteArray} {l : List Nat} (hc : codes s = l) (hd : ¬ digs l) (h0 : 0 < l.length) (hs : l.length ≤ 1000000) (w : World) :
    Calls Tryd.prog 8 #[.string s] w (RetVal w (.tuple #[.slice none 0 0, .int .i64 3])) := by
  subst hc
  rw [codes_len] at h0 hs
  refine (parse_any s w h0 hs).mono fun e w' h => ?_
  rcases h with ⟨h, _⟩ | ⟨_, h⟩
  · exact absurd h hd
  · exact h
theorem drop_is {A : Option Addr} {n c a k m : Nat} {v : Int} {w : World} (h : Num w w.heap.size A n c a) (hn : n ≤ 1000000) (hk : k ≤ 9223372036854775807) (hv : v = k) (hm : a / 10 ^ k = m) :
    Calls Tryd.prog 10 #[.slice A n c, .int .i64 v] w (RetSub w m) := by
  subst hv; subst hm; exact drop_any A n c a k w h hn hk
theorem text_is {A : Option Addr} {n c a : Nat} {w : World} {s : ByteArray} (h : Num w w.heap.size A n c a) (hn : n ≤ 1000000) (hs : str (txt a) = s) :
    Calls Tryd.prog 12 #[.slice A n c] w (RetVal w (.string s)) := by
  subst hs; exact text_any A n c a _ w h (Nat.le_refl _) hn
theorem count_is {A : Option Addr} {n c a B m : Nat} {w : World} (h : Num w B A n c a) (hn : n ≤ 1000000) (hm : nd a = m) :
    Calls Tryd.prog 15 #[.slice A n c] w fun e w' => e = .returned (.int .i64 (m : Nat)) ∧ w = w' := by
  subst hm; exact count_any A n c a B w h hn
theorem noughts_is {A : Option Addr} {n c a B m : Nat} {w : World} (h : Num w B A n c a) (hn : n ≤ 1000000) (hm : tz a = m) :
    Calls Tryd.prog 17 #[.slice A n c] w fun e w' => e = .returned (.int .i64 (m : Nat)) ∧ w = w' := by
  subst hm; exact noughts_any A n c a B w h hn
theorem num_none (w : World) (B : Nat) : Num w B none 0 0 0 := by rw [Num, dg_zero]; exact Lim.nil

def t1 : Nat := 1000000005
def t2 : Nat := 1000000
theorem dg_t1 : dg t1 = [5, 1] := by unfold t1; rw [dg_pos (by omega), dg_pos (by omega), dg_zero]
theorem ten_codes : codes ⟨#[49, 48, 48, 48, 48, 48, 48, 48, 48, 53]⟩ = [49, 48, 48, 48, 48, 48, 48, 48, 48, 53] := rfl
theorem abc_codes : codes ⟨#[49, 50, 97]⟩ = [49, 50, 97] := rfl
theorem text_t1 : str (txt t1) = ⟨#[49, 48, 48, 48, 48, 48, 48, 48, 48, 53]⟩ := by rw [txt_pad 9 (a := t1) (by decide) (by decide)]; rfl
theorem text_t2 : str (txt t2) = ⟨#[49, 48, 48, 48, 48, 48, 48]⟩ := by rw [txt_pad 6 (a := t2) (by decide) (by decide)]; rfl
theorem text_0 : str (txt 0) = ⟨#[48]⟩ := by rw [txt_zero]; rfl
theorem nd_t1 : nd t1 = 10 := by unfold nd; rw [txt_pad 9 (a := t1) (by decide) (by decide), pad_len]
theorem nd_0 : nd 0 = 1 := nd_lt (by omega)
theorem tz_t2 : tz t2 = 6 := by
  have := tz_mul (a := 1) (by omega) 6
  rw [tz_no (by decide : 1 % 10 ≠ 0)] at this
  exact this

set_option maxHeartbeats 4000000 in
set_option maxRecDepth 100000 in
theorem awake_any (w : World) : Calls Tryd.prog 7 #[] w (RetVal w (.bool true)) := by
  have E := Env.refl w
  go_enter Tryd.func7, Tryd.ntmps7
  go_wp2_with fail
  refine (parse_is (m := t1) ten_codes (by unfold digs; decide) (by decide) (by decide) (by decide) _).mono ?_; rintro e w1 ⟨A1, n1, c1, rfl, h, hb⟩; replace E := Env.push E hb h
  obtain rfl : n1 = 2 := h.len.symm.trans (by rw [dg_t1]; rfl)
  clear h hb
  go_wp2_with fail
  refine (parse_no abc_codes (by unfold digs; decide) (by decide) (by decide) _).mono ?_; rintro e w2 ⟨rfl, hb⟩; replace E := Env.step E hb
  clear hb
  go_wp2_with fail
  refine (parse_empty _).mono ?_; rintro e w3 ⟨rfl, hb⟩; replace E := Env.step E hb
  clear hb
  go_wp2_with fail
  refine (drop_is (k := 3) (m := t2) (Env.get E (A := A1) (n := 2) (c := c1) (a := t1) (by simp)) (by omega) (by omega) rfl (by decide)).mono ?_; rintro e w4 ⟨A4, n4, c4, rfl, h, hb⟩; replace E := Env.push E hb h
  have l4 : n4 ≤ 1 := by have : (dg t2).length ≤ 1 := dg_len_le (by decide); rwa [h.len] at this
  clear h hb
  go_wp2_with fail
  refine (drop_neg A1 2 c1 (-1) _ (by omega)).mono ?_; rintro e w5 ⟨rfl, hb⟩; replace E := Env.step E hb
  clear hb
  go_wp2_with fail
  refine (text_is (Env.get E (A := A1) (n := 2) (c := c1) (a := t1) (by simp)) (by omega) text_t1).mono ?_; rintro e w6 ⟨rfl, hb⟩; replace E := Env.step E hb
  clear hb
  go_wp2_with fail
  refine (text_is (Env.get E (A := A4) (n := n4) (c := c4) (by simp)) (by omega) text_t2).mono ?_; rintro e w7 ⟨rfl, hb⟩; replace E := Env.step E hb
  clear hb
  go_wp2_with fail
  refine (text_is (num_none _ _) (by omega) text_0).mono ?_; rintro e w8 ⟨rfl, hb⟩; replace E := Env.step E hb
  clear hb
  go_wp2_with fail
  refine (count_is (Env.get E (A := A1) (n := 2) (c := c1) (a := t1) (by simp)) (by omega) nd_t1).mono ?_; rintro e w' ⟨rfl, rfl⟩
  go_wp2_with fail
  refine (count_is (num_none _ 0) (by omega) nd_0).mono ?_; rintro e w' ⟨rfl, rfl⟩
  go_wp2_with fail
  refine (noughts_is (Env.get E (A := A4) (n := n4) (c := c4) (by simp)) (by omega) tz_t2).mono ?_; rintro e w' ⟨rfl, rfl⟩
  go_wp2_with fail
  refine (noughts_is (num_none _ 0) (by omega) tz_zero).mono ?_; rintro e w' ⟨rfl, rfl⟩
  go_wp2_with fail
  go_ret
  exact ⟨rfl, E.out.1⟩

end Go.Proofs.YtecgmdomhbmbkaaDoor
