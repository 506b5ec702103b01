/-
  The walk of the law DigitsSays.
-/
import Derived.Test.YtecgmdomhbmbkaaDoorDigT
import Derived.Test.YtecgmdomhbmbkaaDoorDigS
namespace Go.Proofs.YtecgmdomhbmbkaaDoor
open Go.RowKit

theorem rparse_is {s : ByteArray} {m : Nat} (hd : digs (codes s)) (hm : pv (codes s) = m) (h0 : 0 < s.size) (hs : s.size ≤ 10000) (w : World) :
    Calls Tryd.prog 9 #[.string s] w (RetSub w m) := by
  subst hm
  refine (refParse_any s w h0 hs).mono fun e w' h => ?_
  rcases h with ⟨_, h⟩ | ⟨h, _⟩
  · exact h
  · exact absurd hd h
theorem rparse_no {s : ByteArray} (hd : ¬ digs (codes s)) (h0 : 0 < s.size) (hs : s.size ≤ 10000) (w : World) :
    Calls Tryd.prog 9 #[.string s] w (RetVal w (.tuple #[.slice none 0 0, .int .i64 3])) := by
  refine (refParse_any s w h0 hs).mono fun e w' h => ?_
  rcases h with ⟨h, _⟩ | ⟨_, h⟩
  · exact absurd h hd
  · exact h
theorem rdrop_is {A : Option Addr} {n c a k m : Nat} {v : Int} {w : World} (h : Num w w.heap.size A n c a) (hn : n ≤ 1000) (hk : k ≤ 9223372036854775807) (hv : v = k) (hm : a / 10 ^ k = m) :
    Calls Tryd.prog 11 #[.slice A n c, .int .i64 v] w (RetSub w m) := by
  subst hv; subst hm; exact refDrop_any A n c a k w h hn hk
theorem rcount_is {A : Option Addr} {n c a m : Nat} {w : World} (h : Num w w.heap.size A n c a) (hn : n ≤ 10000) (hm : nd a = m) :
    Calls Tryd.prog 16 #[.slice A n c] w (RetVal w (.int .i64 (m : Nat))) := by
  subst hm; exact refCount_any A n c a w h hn
theorem rnoughts_is {A : Option Addr} {n c a m : Nat} {w : World} (h : Num w w.heap.size A n c a) (hn : n ≤ 10000) (hm : tz a = m) :
    Calls Tryd.prog 18 #[.slice A n c] w (RetVal w (.int .i64 (m : Nat))) := by
  subst hm; exact refNoughts_any A n c a w h hn
theorem rtext_is {A : Option Addr} {n c a : Nat} {w : World} {s : ByteArray} (h : Num w w.heap.size A n c a) (hn : n ≤ 10000) (hs : str (txt a) = s) :
    Calls Tryd.prog 13 #[.slice A n c] w (RetVal w (.string s)) := by
  subst hs; exact refText_is h hn rfl
theorem rsame4_is {A A' : Option Addr} {n c n' c' a b : Nat} {w : World} (h : Num w w.heap.size A n c a) (h' : Num w w.heap.size A' n' c' b) (hs : a = b) :
    Calls Tryd.prog 14 #[.slice A n c, .slice A' n' c'] w (RetVal w (.bool true)) := by
  have := refSame_any A A' n c n' c' a b w h h'
  rwa [decide_eq_true hs] at this

set_option maxHeartbeats 1000000 in
set_option maxRecDepth 100000 in
theorem says_bad (A1 : Option Addr) (n1 c1 : Nat) (s : ByteArray) (z : Int) (x1 : List Nat) (w : World) (h1 : Hid (Lim w w.heap.size A1 n1 c1 x1)) (hsm : s.size ≤ maxLen)
    (hbad : 20 < n1 ∨ (n1 ≤ 20 ∧ rightB x1 = false) ∨ (n1 ≤ 20 ∧ rightB x1 = true ∧ 200 < s.size)) :
    Calls Tryd.prog 3 #[.slice A1 n1 c1, .string s, .int .i64 z] w (RetVal w (.bool true)) := by
  unfold maxLen at hsm
  rcases hbad with hl | ⟨hl, hr⟩ | ⟨hl, hr, hs⟩
  all_goals
    go_enter Tryd.func3, Tryd.ntmps3
    go_wp2_with (first | (go_at_call 6; refine (refRight_any A1 n1 c1 _ x1 _ h1.out).mono ?_; rintro e w' ⟨rfl, rfl⟩) | (go_at_call 7; refine (awake_any _).mono ?_; rintro e w' ⟨rfl, hb⟩; have HB := Lib.hid hb; clear hb))
    go_ret
    exact ⟨rfl, HB.out⟩

set_option maxHeartbeats 4000000 in
set_option maxRecDepth 100000 in
theorem says_em (A1 : Option Addr) (n1 c1 a : Nat) (w : World) (h1 : Num w w.heap.size A1 n1 c1 a) (hl : n1 ≤ 20) (z : Int) (hz : z < 0) :
    Calls Tryd.prog 3 #[.slice A1 n1 c1, .string ⟨#[]⟩, .int .i64 z] w (RetVal w (.bool true)) := by
  have hr := right_dg a
  have E := Env.one5 h1
  obtain ⟨t, ht⟩ : ∃ t, str (txt a) = t := ⟨_, rfl⟩
  obtain ⟨m, hm⟩ : ∃ m, nd a = m := ⟨_, rfl⟩
  obtain ⟨u, hu⟩ : ∃ u, tz a = u := ⟨_, rfl⟩
  have TS := Lib.hid ht
  have MS := Lib.hid hm
  have ZS := Lib.hid hu
  clear h1 ht hm hu
  go_enter Tryd.func3, Tryd.ntmps3
  go_wp2_with fail
  refine (refRight_any A1 n1 c1 _ (dg a) _ (Env.get E (by simp))).mono ?_; rintro e w' ⟨rfl, rfl⟩
  go_wp2_with fail
  refine (parse_empty _).mono ?_; rintro e w2 ⟨rfl, hb⟩; replace E := Env.step E hb
  clear hb
  go_wp2_with fail
  refine (refParse_empty _).mono ?_; rintro e w3 ⟨rfl, hb⟩; replace E := Env.step E hb
  clear hb
  go_wp2_with fail
  refine (drop_neg A1 n1 c1 z _ hz).mono ?_; rintro e w4 ⟨rfl, hb⟩; replace E := Env.step E hb
  clear hb
  go_wp2_with fail
  refine (refDrop_neg A1 n1 c1 z _ hz).mono ?_; rintro e w5 ⟨rfl, hb⟩; replace E := Env.step E hb
  clear hb
  go_wp2_with fail
  refine (text_is (a := a) (Env.get E (A := A1) (n := n1) (c := c1) (by simp)) (by omega) TS.out).mono ?_; rintro e w6 ⟨rfl, hb⟩; replace E := Env.step E hb
  clear hb
  go_wp2_with fail
  refine (rtext_is (a := a) (Env.get E (A := A1) (n := n1) (c := c1) (by simp)) (by omega) TS.out).mono ?_; rintro e w7 ⟨rfl, hb⟩; replace E := Env.step E hb
  clear hb
  go_wp2_with fail
  refine (rsame4_is (num_none _ _) (num_none _ _) rfl).mono ?_; rintro e w8 ⟨rfl, hb⟩; replace E := Env.step E hb
  clear hb
  go_wp2_with fail
  refine (count_is (a := a) (Env.get E (A := A1) (n := n1) (c := c1) (by simp)) (by omega) MS.out).mono ?_; rintro e w' ⟨rfl, rfl⟩
  go_wp2_with fail
  refine (rcount_is (a := a) (Env.get E (A := A1) (n := n1) (c := c1) (by simp)) (by omega) MS.out).mono ?_; rintro e w9 ⟨rfl, hb⟩; replace E := Env.step E hb
  clear hb
  go_wp2_with fail
  refine (noughts_is (a := a) (Env.get E (A := A1) (n := n1) (c := c1) (by simp)) (by omega) ZS.out).mono ?_; rintro e w' ⟨rfl, rfl⟩
  go_wp2_with fail
  refine (rnoughts_is (a := a) (Env.get E (A := A1) (n := n1) (c := c1) (by simp)) (by omega) ZS.out).mono ?_; rintro e w10 ⟨rfl, hb⟩; replace E := Env.step E hb
  clear hb
  go_wp2_with fail
  refine (rsame4_is (num_none _ _) (num_none _ _) rfl).mono ?_; rintro e w11 ⟨rfl, hb⟩; replace E := Env.step E hb
  clear hb
  go_wp2_with fail
  refine (awake_any _).mono ?_; rintro e w99 ⟨rfl, hb⟩; replace E := Env.step E hb
  clear hb
  go_wp2_with fail
  go_ret
  exact ⟨rfl, E.out.1⟩

set_option maxHeartbeats 4000000 in
set_option maxRecDepth 100000 in
theorem says_ep (A1 : Option Addr) (n1 c1 a : Nat) (w : World) (h1 : Num w w.heap.size A1 n1 c1 a) (hl : n1 ≤ 20) (k : Nat) (hz : k ≤ 9223372036854775807) :
    Calls Tryd.prog 3 #[.slice A1 n1 c1, .string ⟨#[]⟩, .int .i64 k] w (RetVal w (.bool true)) := by
  have hr := right_dg a
  have E := Env.one5 h1
  obtain ⟨t, ht⟩ : ∃ t, str (txt a) = t := ⟨_, rfl⟩
  obtain ⟨m, hm⟩ : ∃ m, nd a = m := ⟨_, rfl⟩
  obtain ⟨u, hu⟩ : ∃ u, tz a = u := ⟨_, rfl⟩
  have TS := Lib.hid ht
  have MS := Lib.hid hm
  have ZS := Lib.hid hu
  obtain ⟨D, hD⟩ : ∃ D, a / 10 ^ k = D := ⟨_, rfl⟩
  have HD := Lib.hid hD
  clear hD
  clear h1 ht hm hu
  go_enter Tryd.func3, Tryd.ntmps3
  go_wp2_with fail
  refine (refRight_any A1 n1 c1 _ (dg a) _ (Env.get E (by simp))).mono ?_; rintro e w' ⟨rfl, rfl⟩
  go_wp2_with fail
  refine (parse_empty _).mono ?_; rintro e w2 ⟨rfl, hb⟩; replace E := Env.step E hb
  clear hb
  go_wp2_with fail
  refine (refParse_empty _).mono ?_; rintro e w3 ⟨rfl, hb⟩; replace E := Env.step E hb
  clear hb
  go_wp2_with fail
  refine (drop_is (a := a) (k := k) (m := D) (Env.get E (A := A1) (n := n1) (c := c1) (by simp)) (by omega) hz rfl HD.out).mono ?_; rintro e w4 ⟨A4, n4, c4, rfl, h, hb⟩; replace E := Env.push E hb h
  clear h hb
  go_wp2_with fail
  refine (rdrop_is (a := a) (k := k) (m := D) (Env.get E (A := A1) (n := n1) (c := c1) (by simp)) (by omega) hz rfl HD.out).mono ?_; rintro e w5 ⟨A5, n5, c5, rfl, h, hb⟩; replace E := Env.push E hb h
  clear h hb
  go_wp2_with fail
  refine (text_is (a := a) (Env.get E (A := A1) (n := n1) (c := c1) (by simp)) (by omega) TS.out).mono ?_; rintro e w6 ⟨rfl, hb⟩; replace E := Env.step E hb
  clear hb
  go_wp2_with fail
  refine (rtext_is (a := a) (Env.get E (A := A1) (n := n1) (c := c1) (by simp)) (by omega) TS.out).mono ?_; rintro e w7 ⟨rfl, hb⟩; replace E := Env.step E hb
  clear hb
  go_wp2_with fail
  refine (rsame4_is (num_none _ _) (num_none _ _) rfl).mono ?_; rintro e w8 ⟨rfl, hb⟩; replace E := Env.step E hb
  clear hb
  go_wp2_with fail
  refine (count_is (a := a) (Env.get E (A := A1) (n := n1) (c := c1) (by simp)) (by omega) MS.out).mono ?_; rintro e w' ⟨rfl, rfl⟩
  go_wp2_with fail
  refine (rcount_is (a := a) (Env.get E (A := A1) (n := n1) (c := c1) (by simp)) (by omega) MS.out).mono ?_; rintro e w9 ⟨rfl, hb⟩; replace E := Env.step E hb
  clear hb
  go_wp2_with fail
  refine (noughts_is (a := a) (Env.get E (A := A1) (n := n1) (c := c1) (by simp)) (by omega) ZS.out).mono ?_; rintro e w' ⟨rfl, rfl⟩
  go_wp2_with fail
  refine (rnoughts_is (a := a) (Env.get E (A := A1) (n := n1) (c := c1) (by simp)) (by omega) ZS.out).mono ?_; rintro e w10 ⟨rfl, hb⟩; replace E := Env.step E hb
  clear hb
  go_wp2_with fail
  refine (rsame4_is (a := D) (b := D) (Env.get E (A := A4) (n := n4) (c := c4) (by simp)) (Env.get E (A := A5) (n := n5) (c := c5) (by simp)) rfl).mono ?_; rintro e w11 ⟨rfl, hb⟩; replace E := Env.step E hb
  clear hb
  go_wp2_with fail
  refine (awake_any _).mono ?_; rintro e w99 ⟨rfl, hb⟩; replace E := Env.step E hb
  clear hb
  go_wp2_with fail
  go_ret
  exact ⟨rfl, E.out.1⟩

set_option maxHeartbeats 4000000 in
set_option maxRecDepth 100000 in
theorem says_nm (A1 : Option Addr) (n1 c1 a : Nat) (w : World) (h1 : Num w w.heap.size A1 n1 c1 a) (hl : n1 ≤ 20) (s : ByteArray) (hs0 : 0 < s.size) (hs : s.size ≤ 200) (kn : ¬ digs (codes s)) (z : Int) (hz : z < 0) :
    Calls Tryd.prog 3 #[.slice A1 n1 c1, .string s, .int .i64 z] w (RetVal w (.bool true)) := by
  have hr := right_dg a
  have E := Env.one5 h1
  obtain ⟨t, ht⟩ : ∃ t, str (txt a) = t := ⟨_, rfl⟩
  obtain ⟨m, hm⟩ : ∃ m, nd a = m := ⟨_, rfl⟩
  obtain ⟨u, hu⟩ : ∃ u, tz a = u := ⟨_, rfl⟩
  have TS := Lib.hid ht
  have MS := Lib.hid hm
  have ZS := Lib.hid hu
  have KN := Lib.hid kn
  clear kn
  clear h1 ht hm hu
  go_enter Tryd.func3, Tryd.ntmps3
  go_wp2_with fail
  refine (refRight_any A1 n1 c1 _ (dg a) _ (Env.get E (by simp))).mono ?_; rintro e w' ⟨rfl, rfl⟩
  go_wp2_with fail
  refine (parse_no (s := s) rfl KN.out (by rw [codes_len]; exact hs0) (by rw [codes_len]; omega) _).mono ?_; rintro e w2 ⟨rfl, hb⟩; replace E := Env.step E hb
  clear hb
  go_wp2_with fail
  refine (rparse_no (s := s) KN.out hs0 (by omega) _).mono ?_; rintro e w3 ⟨rfl, hb⟩; replace E := Env.step E hb
  clear hb
  go_wp2_with fail
  refine (drop_neg A1 n1 c1 z _ hz).mono ?_; rintro e w4 ⟨rfl, hb⟩; replace E := Env.step E hb
  clear hb
  go_wp2_with fail
  refine (refDrop_neg A1 n1 c1 z _ hz).mono ?_; rintro e w5 ⟨rfl, hb⟩; replace E := Env.step E hb
  clear hb
  go_wp2_with fail
  refine (text_is (a := a) (Env.get E (A := A1) (n := n1) (c := c1) (by simp)) (by omega) TS.out).mono ?_; rintro e w6 ⟨rfl, hb⟩; replace E := Env.step E hb
  clear hb
  go_wp2_with fail
  refine (rtext_is (a := a) (Env.get E (A := A1) (n := n1) (c := c1) (by simp)) (by omega) TS.out).mono ?_; rintro e w7 ⟨rfl, hb⟩; replace E := Env.step E hb
  clear hb
  go_wp2_with fail
  refine (rsame4_is (num_none _ _) (num_none _ _) rfl).mono ?_; rintro e w8 ⟨rfl, hb⟩; replace E := Env.step E hb
  clear hb
  go_wp2_with fail
  refine (count_is (a := a) (Env.get E (A := A1) (n := n1) (c := c1) (by simp)) (by omega) MS.out).mono ?_; rintro e w' ⟨rfl, rfl⟩
  go_wp2_with fail
  refine (rcount_is (a := a) (Env.get E (A := A1) (n := n1) (c := c1) (by simp)) (by omega) MS.out).mono ?_; rintro e w9 ⟨rfl, hb⟩; replace E := Env.step E hb
  clear hb
  go_wp2_with fail
  refine (noughts_is (a := a) (Env.get E (A := A1) (n := n1) (c := c1) (by simp)) (by omega) ZS.out).mono ?_; rintro e w' ⟨rfl, rfl⟩
  go_wp2_with fail
  refine (rnoughts_is (a := a) (Env.get E (A := A1) (n := n1) (c := c1) (by simp)) (by omega) ZS.out).mono ?_; rintro e w10 ⟨rfl, hb⟩; replace E := Env.step E hb
  clear hb
  go_wp2_with fail
  refine (rsame4_is (num_none _ _) (num_none _ _) rfl).mono ?_; rintro e w11 ⟨rfl, hb⟩; replace E := Env.step E hb
  clear hb
  go_wp2_with fail
  refine (awake_any _).mono ?_; rintro e w99 ⟨rfl, hb⟩; replace E := Env.step E hb
  clear hb
  go_wp2_with fail
  go_ret
  exact ⟨rfl, E.out.1⟩

set_option maxHeartbeats 4000000 in
set_option maxRecDepth 100000 in
theorem says_np (A1 : Option Addr) (n1 c1 a : Nat) (w : World) (h1 : Num w w.heap.size A1 n1 c1 a) (hl : n1 ≤ 20) (s : ByteArray) (hs0 : 0 < s.size) (hs : s.size ≤ 200) (kn : ¬ digs (codes s)) (k : Nat) (hz : k ≤ 9223372036854775807) :
    Calls Tryd.prog 3 #[.slice A1 n1 c1, .string s, .int .i64 k] w (RetVal w (.bool true)) := by
  have hr := right_dg a
  have E := Env.one5 h1
  obtain ⟨t, ht⟩ : ∃ t, str (txt a) = t := ⟨_, rfl⟩
  obtain ⟨m, hm⟩ : ∃ m, nd a = m := ⟨_, rfl⟩
  obtain ⟨u, hu⟩ : ∃ u, tz a = u := ⟨_, rfl⟩
  have TS := Lib.hid ht
  have MS := Lib.hid hm
  have ZS := Lib.hid hu
  have KN := Lib.hid kn
  clear kn
  obtain ⟨D, hD⟩ : ∃ D, a / 10 ^ k = D := ⟨_, rfl⟩
  have HD := Lib.hid hD
  clear hD
  clear h1 ht hm hu
  go_enter Tryd.func3, Tryd.ntmps3
  go_wp2_with fail
  refine (refRight_any A1 n1 c1 _ (dg a) _ (Env.get E (by simp))).mono ?_; rintro e w' ⟨rfl, rfl⟩
  go_wp2_with fail
  refine (parse_no (s := s) rfl KN.out (by rw [codes_len]; exact hs0) (by rw [codes_len]; omega) _).mono ?_; rintro e w2 ⟨rfl, hb⟩; replace E := Env.step E hb
  clear hb
  go_wp2_with fail
  refine (rparse_no (s := s) KN.out hs0 (by omega) _).mono ?_; rintro e w3 ⟨rfl, hb⟩; replace E := Env.step E hb
  clear hb
  go_wp2_with fail
  refine (drop_is (a := a) (k := k) (m := D) (Env.get E (A := A1) (n := n1) (c := c1) (by simp)) (by omega) hz rfl HD.out).mono ?_; rintro e w4 ⟨A4, n4, c4, rfl, h, hb⟩; replace E := Env.push E hb h
  clear h hb
  go_wp2_with fail
  refine (rdrop_is (a := a) (k := k) (m := D) (Env.get E (A := A1) (n := n1) (c := c1) (by simp)) (by omega) hz rfl HD.out).mono ?_; rintro e w5 ⟨A5, n5, c5, rfl, h, hb⟩; replace E := Env.push E hb h
  clear h hb
  go_wp2_with fail
  refine (text_is (a := a) (Env.get E (A := A1) (n := n1) (c := c1) (by simp)) (by omega) TS.out).mono ?_; rintro e w6 ⟨rfl, hb⟩; replace E := Env.step E hb
  clear hb
  go_wp2_with fail
  refine (rtext_is (a := a) (Env.get E (A := A1) (n := n1) (c := c1) (by simp)) (by omega) TS.out).mono ?_; rintro e w7 ⟨rfl, hb⟩; replace E := Env.step E hb
  clear hb
  go_wp2_with fail
  refine (rsame4_is (num_none _ _) (num_none _ _) rfl).mono ?_; rintro e w8 ⟨rfl, hb⟩; replace E := Env.step E hb
  clear hb
  go_wp2_with fail
  refine (count_is (a := a) (Env.get E (A := A1) (n := n1) (c := c1) (by simp)) (by omega) MS.out).mono ?_; rintro e w' ⟨rfl, rfl⟩
  go_wp2_with fail
  refine (rcount_is (a := a) (Env.get E (A := A1) (n := n1) (c := c1) (by simp)) (by omega) MS.out).mono ?_; rintro e w9 ⟨rfl, hb⟩; replace E := Env.step E hb
  clear hb
  go_wp2_with fail
  refine (noughts_is (a := a) (Env.get E (A := A1) (n := n1) (c := c1) (by simp)) (by omega) ZS.out).mono ?_; rintro e w' ⟨rfl, rfl⟩
  go_wp2_with fail
  refine (rnoughts_is (a := a) (Env.get E (A := A1) (n := n1) (c := c1) (by simp)) (by omega) ZS.out).mono ?_; rintro e w10 ⟨rfl, hb⟩; replace E := Env.step E hb
  clear hb
  go_wp2_with fail
  refine (rsame4_is (a := D) (b := D) (Env.get E (A := A4) (n := n4) (c := c4) (by simp)) (Env.get E (A := A5) (n := n5) (c := c5) (by simp)) rfl).mono ?_; rintro e w11 ⟨rfl, hb⟩; replace E := Env.step E hb
  clear hb
  go_wp2_with fail
  refine (awake_any _).mono ?_; rintro e w99 ⟨rfl, hb⟩; replace E := Env.step E hb
  clear hb
  go_wp2_with fail
  go_ret
  exact ⟨rfl, E.out.1⟩

set_option maxHeartbeats 4000000 in
set_option maxRecDepth 100000 in
theorem says_ym (A1 : Option Addr) (n1 c1 a : Nat) (w : World) (h1 : Num w w.heap.size A1 n1 c1 a) (hl : n1 ≤ 20) (s : ByteArray) (hs0 : 0 < s.size) (hs : s.size ≤ 200) (ky : digs (codes s)) (z : Int) (hz : z < 0) :
    Calls Tryd.prog 3 #[.slice A1 n1 c1, .string s, .int .i64 z] w (RetVal w (.bool true)) := by
  have hr := right_dg a
  have E := Env.one5 h1
  obtain ⟨t, ht⟩ : ∃ t, str (txt a) = t := ⟨_, rfl⟩
  obtain ⟨m, hm⟩ : ∃ m, nd a = m := ⟨_, rfl⟩
  obtain ⟨u, hu⟩ : ∃ u, tz a = u := ⟨_, rfl⟩
  have TS := Lib.hid ht
  have MS := Lib.hid hm
  have ZS := Lib.hid hu
  have KY := Lib.hid ky
  obtain ⟨M, hM⟩ : ∃ M, pv (codes s) = M := ⟨_, rfl⟩
  have HM := Lib.hid hM
  clear ky hM
  clear h1 ht hm hu
  go_enter Tryd.func3, Tryd.ntmps3
  go_wp2_with fail
  refine (refRight_any A1 n1 c1 _ (dg a) _ (Env.get E (by simp))).mono ?_; rintro e w' ⟨rfl, rfl⟩
  go_wp2_with fail
  refine (parse_is (s := s) (m := M) rfl KY.out HM.out (by rw [codes_len]; exact hs0) (by rw [codes_len]; omega) _).mono ?_; rintro e w2 ⟨A2, n2, c2, rfl, h, hb⟩; replace E := Env.push E hb h
  clear h hb
  go_wp2_with fail
  refine (rparse_is (s := s) (m := M) KY.out HM.out hs0 (by omega) _).mono ?_; rintro e w3 ⟨A3, n3, c3, rfl, h, hb⟩; replace E := Env.push E hb h
  clear h hb
  go_wp2_with fail
  refine (drop_neg A1 n1 c1 z _ hz).mono ?_; rintro e w4 ⟨rfl, hb⟩; replace E := Env.step E hb
  clear hb
  go_wp2_with fail
  refine (refDrop_neg A1 n1 c1 z _ hz).mono ?_; rintro e w5 ⟨rfl, hb⟩; replace E := Env.step E hb
  clear hb
  go_wp2_with fail
  refine (text_is (a := a) (Env.get E (A := A1) (n := n1) (c := c1) (by simp)) (by omega) TS.out).mono ?_; rintro e w6 ⟨rfl, hb⟩; replace E := Env.step E hb
  clear hb
  go_wp2_with fail
  refine (rtext_is (a := a) (Env.get E (A := A1) (n := n1) (c := c1) (by simp)) (by omega) TS.out).mono ?_; rintro e w7 ⟨rfl, hb⟩; replace E := Env.step E hb
  clear hb
  go_wp2_with fail
  refine (rsame4_is (a := M) (b := M) (Env.get E (A := A2) (n := n2) (c := c2) (by simp)) (Env.get E (A := A3) (n := n3) (c := c3) (by simp)) rfl).mono ?_; rintro e w8 ⟨rfl, hb⟩; replace E := Env.step E hb
  clear hb
  go_wp2_with fail
  refine (count_is (a := a) (Env.get E (A := A1) (n := n1) (c := c1) (by simp)) (by omega) MS.out).mono ?_; rintro e w' ⟨rfl, rfl⟩
  go_wp2_with fail
  refine (rcount_is (a := a) (Env.get E (A := A1) (n := n1) (c := c1) (by simp)) (by omega) MS.out).mono ?_; rintro e w9 ⟨rfl, hb⟩; replace E := Env.step E hb
  clear hb
  go_wp2_with fail
  refine (noughts_is (a := a) (Env.get E (A := A1) (n := n1) (c := c1) (by simp)) (by omega) ZS.out).mono ?_; rintro e w' ⟨rfl, rfl⟩
  go_wp2_with fail
  refine (rnoughts_is (a := a) (Env.get E (A := A1) (n := n1) (c := c1) (by simp)) (by omega) ZS.out).mono ?_; rintro e w10 ⟨rfl, hb⟩; replace E := Env.step E hb
  clear hb
  go_wp2_with fail
  refine (rsame4_is (num_none _ _) (num_none _ _) rfl).mono ?_; rintro e w11 ⟨rfl, hb⟩; replace E := Env.step E hb
  clear hb
  go_wp2_with fail
  refine (awake_any _).mono ?_; rintro e w99 ⟨rfl, hb⟩; replace E := Env.step E hb
  clear hb
  go_wp2_with fail
  go_ret
  exact ⟨rfl, E.out.1⟩

set_option maxHeartbeats 4000000 in
set_option maxRecDepth 100000 in
theorem says_yp (A1 : Option Addr) (n1 c1 a : Nat) (w : World) (h1 : Num w w.heap.size A1 n1 c1 a) (hl : n1 ≤ 20) (s : ByteArray) (hs0 : 0 < s.size) (hs : s.size ≤ 200) (ky : digs (codes s)) (k : Nat) (hz : k ≤ 9223372036854775807) :
    Calls Tryd.prog 3 #[.slice A1 n1 c1, .string s, .int .i64 k] w (RetVal w (.bool true)) := by
  have hr := right_dg a
  have E := Env.one5 h1
  obtain ⟨t, ht⟩ : ∃ t, str (txt a) = t := ⟨_, rfl⟩
  obtain ⟨m, hm⟩ : ∃ m, nd a = m := ⟨_, rfl⟩
  obtain ⟨u, hu⟩ : ∃ u, tz a = u := ⟨_, rfl⟩
  have TS := Lib.hid ht
  have MS := Lib.hid hm
  have ZS := Lib.hid hu
  have KY := Lib.hid ky
  obtain ⟨M, hM⟩ : ∃ M, pv (codes s) = M := ⟨_, rfl⟩
  have HM := Lib.hid hM
  clear ky hM
  obtain ⟨D, hD⟩ : ∃ D, a / 10 ^ k = D := ⟨_, rfl⟩
  have HD := Lib.hid hD
  clear hD
  clear h1 ht hm hu
  go_enter Tryd.func3, Tryd.ntmps3
  go_wp2_with fail
  refine (refRight_any A1 n1 c1 _ (dg a) _ (Env.get E (by simp))).mono ?_; rintro e w' ⟨rfl, rfl⟩
  go_wp2_with fail
  refine (parse_is (s := s) (m := M) rfl KY.out HM.out (by rw [codes_len]; exact hs0) (by rw [codes_len]; omega) _).mono ?_; rintro e w2 ⟨A2, n2, c2, rfl, h, hb⟩; replace E := Env.push E hb h
  clear h hb
  go_wp2_with fail
  refine (rparse_is (s := s) (m := M) KY.out HM.out hs0 (by omega) _).mono ?_; rintro e w3 ⟨A3, n3, c3, rfl, h, hb⟩; replace E := Env.push E hb h
  clear h hb
  go_wp2_with fail
  refine (drop_is (a := a) (k := k) (m := D) (Env.get E (A := A1) (n := n1) (c := c1) (by simp)) (by omega) hz rfl HD.out).mono ?_; rintro e w4 ⟨A4, n4, c4, rfl, h, hb⟩; replace E := Env.push E hb h
  clear h hb
  go_wp2_with fail
  refine (rdrop_is (a := a) (k := k) (m := D) (Env.get E (A := A1) (n := n1) (c := c1) (by simp)) (by omega) hz rfl HD.out).mono ?_; rintro e w5 ⟨A5, n5, c5, rfl, h, hb⟩; replace E := Env.push E hb h
  clear h hb
  go_wp2_with fail
  refine (text_is (a := a) (Env.get E (A := A1) (n := n1) (c := c1) (by simp)) (by omega) TS.out).mono ?_; rintro e w6 ⟨rfl, hb⟩; replace E := Env.step E hb
  clear hb
  go_wp2_with fail
  refine (rtext_is (a := a) (Env.get E (A := A1) (n := n1) (c := c1) (by simp)) (by omega) TS.out).mono ?_; rintro e w7 ⟨rfl, hb⟩; replace E := Env.step E hb
  clear hb
  go_wp2_with fail
  refine (rsame4_is (a := M) (b := M) (Env.get E (A := A2) (n := n2) (c := c2) (by simp)) (Env.get E (A := A3) (n := n3) (c := c3) (by simp)) rfl).mono ?_; rintro e w8 ⟨rfl, hb⟩; replace E := Env.step E hb
  clear hb
  go_wp2_with fail
  refine (count_is (a := a) (Env.get E (A := A1) (n := n1) (c := c1) (by simp)) (by omega) MS.out).mono ?_; rintro e w' ⟨rfl, rfl⟩
  go_wp2_with fail
  refine (rcount_is (a := a) (Env.get E (A := A1) (n := n1) (c := c1) (by simp)) (by omega) MS.out).mono ?_; rintro e w9 ⟨rfl, hb⟩; replace E := Env.step E hb
  clear hb
  go_wp2_with fail
  refine (noughts_is (a := a) (Env.get E (A := A1) (n := n1) (c := c1) (by simp)) (by omega) ZS.out).mono ?_; rintro e w' ⟨rfl, rfl⟩
  go_wp2_with fail
  refine (rnoughts_is (a := a) (Env.get E (A := A1) (n := n1) (c := c1) (by simp)) (by omega) ZS.out).mono ?_; rintro e w10 ⟨rfl, hb⟩; replace E := Env.step E hb
  clear hb
  go_wp2_with fail
  refine (rsame4_is (a := D) (b := D) (Env.get E (A := A4) (n := n4) (c := c4) (by simp)) (Env.get E (A := A5) (n := n5) (c := c5) (by simp)) rfl).mono ?_; rintro e w11 ⟨rfl, hb⟩; replace E := Env.step E hb
  clear hb
  go_wp2_with fail
  refine (awake_any _).mono ?_; rintro e w99 ⟨rfl, hb⟩; replace E := Env.step E hb
  clear hb
  go_wp2_with fail
  go_ret
  exact ⟨rfl, E.out.1⟩

theorem says_law (W : World) (a : Option Addr) (n c : Nat) (x : List Nat) (h : Hid (Lim W W.heap.size a n c x)) (s : ByteArray) (hs : s.size ≤ maxLen) (z : Int) (hz : -9223372036854775808 ≤ z ∧ z ≤ 9223372036854775807) :
    Calls Tryd.prog 3 #[.slice a n c, .string s, .int .i64 z] W (RetVal W (.bool true)) := by
  rcases Nat.lt_or_ge 20 n with hl | hl
  · exact says_bad a n c s z x W h hs (.inl hl)
  · cases hr : rightB x with
    | false => exact says_bad a n c s z x W h hs (.inr (.inl ⟨hl, hr⟩))
    | true =>
      rcases Nat.lt_or_ge 200 s.size with h4 | h4
      · exact says_bad a n c s z x W h hs (.inr (.inr ⟨hl, hr, h4⟩))
      · have hn := h.out.num hr
        rcases Nat.eq_zero_or_pos s.size with h0 | h0
        · have e := str_codes s
          rw [List.eq_nil_of_length_eq_zero (show (codes s).length = 0 by rw [codes_len]; exact h0)] at e
          have e' : s = ⟨#[]⟩ := e.symm
          rw [e']
          rcases Int.lt_or_le z 0 with k0 | k0
          · exact says_em a n c _ W hn hl z k0
          · obtain ⟨k, rfl⟩ : ∃ k : Nat, z = k := ⟨z.toNat, by omega⟩
            exact says_ep a n c _ W hn hl k (by omega)
        · by_cases hd : digs (codes s)
          · rcases Int.lt_or_le z 0 with k0 | k0
            · exact says_ym a n c _ W hn hl s h0 h4 hd z k0
            · obtain ⟨k, rfl⟩ : ∃ k : Nat, z = k := ⟨z.toNat, by omega⟩
              exact says_yp a n c _ W hn hl s h0 h4 hd k (by omega)
          · rcases Int.lt_or_le z 0 with k0 | k0
            · exact says_nm a n c _ W hn hl s h0 h4 hd z k0
            · obtain ⟨k, rfl⟩ : ∃ k : Nat, z = k := ⟨z.toNat, by omega⟩
              exact says_np a n c _ W hn hl s h0 h4 hd k (by omega)

end Go.Proofs.YtecgmdomhbmbkaaDoor
