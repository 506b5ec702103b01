/-
  The walk of the law DigitsBack.
-/
import Derived.Test.YtecgmdomhbmbkaaDoorDigT
namespace Go.Proofs.YtecgmdomhbmbkaaDoor
open Go.RowKit

theorem str_app (x y : List Nat) : str x ++ str y = str (x ++ y) := by
  unfold str
  rw [ByteArray.mk_append_mk, List.map_append]
theorem str_adds (x y : List Nat) (h : x.length + y.length ≤ 9223372036854775807) (w : World) : (Op.stringOp .add (str x) (str y)).run Tryd.prog w = .ok (.string (str (x ++ y))) w := by
  rw [run_string_add_sum w _ _ (by rw [str_size4, str_size4]; omega), str_app]
theorem str_to (l : List Nat) (k : Nat) : (str l).extract 0 k = str (l.take k) := by
  unfold str
  rw [ByteArray.extract_mk]
  simp
theorem str_tail (c : Nat) (l : List Nat) (m : Nat) (hm : m = (str (c :: l)).size) : (str (c :: l)).extract 1 m = str l := by
  subst hm
  rw [str_size4]
  unfold str
  rw [ByteArray.extract_mk]
  congr 2
  rw [List.length_cons, Nat.add_sub_cancel, List.map_cons, List.drop_one, List.tail_cons, List.take_of_length_le (by simp)]
theorem zeros_to {q : Nat} (hq : q ≤ 16) : (ByteArray.mk #[48, 48, 48, 48, 48, 48, 48, 48, 48, 48, 48, 48, 48, 48, 48, 48]).extract 0 q = str (List.replicate q 48) := by
  have e : (ByteArray.mk #[48, 48, 48, 48, 48, 48, 48, 48, 48, 48, 48, 48, 48, 48, 48, 48]) = str (List.replicate 16 48) := rfl
  rw [e, str_to, List.take_replicate, Nat.min_eq_left hq]
theorem digs_small {l : List Nat} (h : digs l) : ∀ c ∈ l, c < 256 := fun c hc => by have := h c hc; omega

/-- Which texts a law goes through, and how they are read. -/
theorem text_kinds (s : ByteArray) : s = ⟨#[]⟩ ∨ (0 < (codes s).length ∧ ¬ digs (codes s)) ∨ (0 < (codes s).length ∧ digs (codes s)) := by
  rcases Nat.eq_zero_or_pos s.size with h | h
  · left
    have e := str_codes s
    rw [List.eq_nil_of_length_eq_zero (show (codes s).length = 0 by rw [codes_len]; exact h)] at e
    exact e.symm
  · rw [codes_len]
    by_cases hd : digs (codes s)
    · exact .inr (.inr ⟨h, hd⟩)
    · exact .inr (.inl ⟨h, hd⟩)

set_option maxHeartbeats 1000000 in
set_option maxRecDepth 100000 in
theorem back_bad (A1 : Option Addr) (n1 c1 N : Nat) (s : ByteArray) (x1 : List Nat) (w : World) (h1 : Hid (Lim w w.heap.size A1 n1 c1 x1)) (hsm : s.size ≤ maxLen)
    (hbad : decide (60 < (n1 : Int)) = true ∨ (decide (60 < (n1 : Int)) = false ∧ rightB x1 = false) ∨ (decide (60 < (n1 : Int)) = false ∧ rightB x1 = true ∧ 400 < s.size)) :
    Calls Tryd.prog 4 #[.slice A1 n1 c1, .string s, .int .u8 N] w (RetVal w (.bool true)) := by
  unfold maxLen at hsm
  rcases hbad with hl | ⟨hl, hr⟩ | ⟨hl, hr, hs⟩
  all_goals
    go_enter Tryd.func4, Tryd.ntmps4
    go_wp2_with (first | (go_at_call 19; refine (long_any _ _ _ _).mono ?_; rintro e w' ⟨rfl, rfl⟩) | (go_at_call 6; refine (refRight_any A1 n1 c1 _ x1 _ h1.out).mono ?_; rintro e w' ⟨rfl, rfl⟩) | (go_at_call 7; refine (awake_any _).mono ?_; rintro e w' ⟨rfl, hb⟩; have HB := Lib.hid hb; clear hb))
    go_ret
    exact ⟨rfl, HB.out⟩

set_option maxHeartbeats 2000000 in
set_option maxRecDepth 100000 in
theorem back_good (A1 : Option Addr) (n1 c1 a N : Nat) (s : ByteArray) (w : World) (h1 : Num w w.heap.size A1 n1 c1 a) (hl : decide (60 < (n1 : Int)) = false) (hs : s.size ≤ 400) (hN : N ≤ 255) :
    Calls Tryd.prog 4 #[.slice A1 n1 c1, .string s, .int .u8 N] w (RetVal w (.bool true)) := by
  have hn1 := len_small hl
  have hr := right_dg a
  have E := Env.one5 h1
  have hnd := nd_le_len h1.len
  obtain ⟨q, hq⟩ : ∃ q, q = N % 17 := ⟨_, rfl⟩
  have hqN : (N : Int) % 17 = (q : Int) := by omega
  have hq16 : q ≤ 16 := by omega
  have hz := zeros_to hq16
  have hadd := str_adds (List.replicate q 48) (txt a) (by
    have e : (txt a).length = nd a := rfl
    rw [List.length_replicate, e]; omega)
  have hpd : digs (List.replicate q 48 ++ txt a) := digs_append.2 ⟨digs_zeros q, digs_txt a⟩
  have P1 := Lib.hid (parse_is (m := a) (codes_str (digs_small hpd)) hpd (by rw [pv_zeros, pv_txt]) (by have := nd_pos a; have e : (txt a).length = nd a := rfl; rw [List.length_append, e]; omega) (by have e : (txt a).length = nd a := rfl; rw [List.length_append, List.length_replicate, e]; omega))
  obtain ⟨t, ht⟩ : ∃ t, str (txt a) = t := ⟨_, rfl⟩
  have TS := Lib.hid ht
  have hts : t.size = nd a := by rw [← ht, str_size4]; rfl
  obtain ⟨m, hm⟩ : ∃ m, nd a = m := ⟨_, rfl⟩
  have MS := Lib.hid hm
  rw [hm] at hts hnd
  obtain ⟨z, hzz⟩ : ∃ z, str (List.replicate q 48) = z := ⟨_, rfl⟩
  obtain ⟨y, hyy⟩ : ∃ y, str (List.replicate q 48 ++ txt a) = y := ⟨_, rfl⟩
  rw [hzz] at hz hadd
  rw [ht, hyy] at hadd
  rw [hyy] at P1
  have htz : ((t.size : Int) == (m : Int)) = true := by rw [beq_iff_eq]; omega
  have htn : ((t.size : Int) != (m : Int)) = false := by rw [bne_eq_false_iff_eq]; omega
  have htb : t.size ≤ 1000 := by omega
  clear h1 hq hpd ht hm hzz hyy hts
  have K := text_kinds s
  go_enter Tryd.func4, Tryd.ntmps4
  have HK := Lib.hid K
  clear K
  go_wp2_with fail
  refine (long_any _ _ _ _).mono ?_; rintro e w' ⟨rfl, rfl⟩
  go_wp2_with fail
  refine (refRight_any A1 n1 c1 _ (dg a) _ (Env.get E (by simp))).mono ?_; rintro e w' ⟨rfl, rfl⟩
  go_wp2_with fail
  refine (text_is (a := a) (Env.get E (A := A1) (n := n1) (c := c1) (by simp)) (by omega) TS.out).mono ?_; rintro e w2 ⟨rfl, hb⟩; replace E := Env.step E hb
  clear hb
  go_wp2_with fail
  refine (P1.out _).mono ?_; rintro e w3 ⟨A3, n3, c3, rfl, h, hb⟩; replace E := Env.push E hb h
  clear h hb
  go_wp2_with fail
  refine (same_is (a := a) (b := a) (Env.get E (A := A1) (n := n1) (c := c1) (by simp)) (Env.get E (A := A3) (n := n3) (c := c3) (by simp)) rfl).mono ?_; rintro e w4 ⟨rfl, hb⟩; replace E := Env.step E hb
  clear hb
  go_wp2_with fail
  refine (right_is (xs := dg a) (t := true) (Env.get E (A := A3) (n := n3) (c := c3) (by simp)) hr).mono ?_; rintro e w' ⟨rfl, rfl⟩
  go_wp2_with fail
  refine (text_is (a := a) (Env.get E (A := A1) (n := n1) (c := c1) (by simp)) (by omega) TS.out).mono ?_; rintro e w5 ⟨rfl, hb⟩; replace E := Env.step E hb
  clear hb
  go_wp2_with fail
  refine (count_is (a := a) (Env.get E (A := A1) (n := n1) (c := c1) (by simp)) (by omega) MS.out).mono ?_; rintro e w' ⟨rfl, rfl⟩
  clear hz hadd P1
  go_wp2_with fail
  rcases HK.out with rfl | ⟨k1, k2⟩ | ⟨k1, k2⟩
  · refine (parse_empty _).mono ?_; rintro e w6 ⟨rfl, hb⟩; replace E := Env.step E hb
    clear hb
    go_wp2_with fail
    refine (awake_any _).mono ?_; rintro e w99 ⟨rfl, hb⟩; replace E := Env.step E hb
    clear hb
    go_wp2_with fail
    go_ret
    exact ⟨rfl, E.out.1⟩
  · refine (parse_no (s := s) rfl k2 k1 (by rw [codes_len]; omega) _).mono ?_; rintro e w6 ⟨rfl, hb⟩; replace E := Env.step E hb
    clear hb k1 k2
    go_wp2_with fail
    refine (awake_any _).mono ?_; rintro e w99 ⟨rfl, hb⟩; replace E := Env.step E hb
    clear hb
    go_wp2_with fail
    go_ret
    exact ⟨rfl, E.out.1⟩
  · obtain ⟨M, hM⟩ : ∃ M, pv (codes s) = M := ⟨_, rfl⟩
    refine (parse_is (s := s) (m := M) rfl k2 hM k1 (by rw [codes_len]; omega) _).mono ?_; rintro e w6 ⟨A6, n6, c6, rfl, h, hb⟩; replace E := Env.push E hb h
    have hn6 : n6 ≤ 400 := by
      refine len_le_of h (Nat.le_trans (m := (codes s).length) ?_ (by rw [codes_len]; exact hs))
      rw [← hM]
      exact dg_len_le (Nat.lt_of_lt_of_le (pv_lt k2) (Nat.pow_le_pow_left (by omega) _))
    have KK : Hid (0 < (codes s).length ∧ digs (codes s) ∧ pv (codes s) = M ∧ str (codes s) = s) := ⟨k1, k2, hM, str_codes s⟩
    clear h hb k1 k2 hM
    go_wp2_with fail
    go_loop [1] (fun v => ∃ l : List Nat, v = .string (str l) ∧ 0 < l.length ∧ l.length ≤ 400 ∧ digs l ∧ pv l = M) (fun v => match v with | .string b => b.size | _ => 0)
    case atStart => exact ⟨codes s, by rw [KK.out.2.2.2], KK.out.1, by rw [codes_len]; exact hs, KK.out.2.1, KK.out.2.2.1⟩
    case round =>
      obtain ⟨l, rfl, hl0, hl4, hld, hlM⟩ := hrel
      obtain ⟨c, r, rfl⟩ : ∃ c r, l = c :: r := by
        match l, hl0 with
        | c :: r, _ => exact ⟨c, r, rfl⟩
      have hsz : (str (c :: r)).size = r.length + 1 := str_size4 _
      have hix : ∀ h : 0 < (str (c :: r)).size, ((str (c :: r))[0]'h).toNat = c := fun h => by rw [← codes_get, codes_str (digs_small hld)]; rfl
      have htl := str_tail c r (r.length + 1) (str_size4 (c :: r)).symm
      have HF : Hid ((r.length = 0 ∨ c ≠ 48) → txt M = c :: r) := fun h => by
        rw [← hlM]
        refine txt_pv r.length (c :: r) (by simp) hld ?_
        rcases h with h | h
        · exact .inl h
        · exact .inr (by simpa using h)
      have HL := Lib.hid hld
      have HM := Lib.hid hlM
      rw [List.length_cons] at hl4
      obtain ⟨b, hb⟩ : ∃ b, str (c :: r) = b := ⟨_, rfl⟩
      rw [hb] at hsz hix htl ⊢
      have BS := Lib.hid hb
      have hb0 : 0 < b.size := by omega
      have hbm : b.size ≤ 1000 := by omega
      have hi0 := hix hb0
      clear hix hb hld hlM hl0
      rcases Nat.eq_zero_or_pos r.length with h0 | h0
      · have hb1 : b.size = 1 := by omega
        have hd1 : decide ((1 : Int) < (b.size : Int)) = false := by rw [decide_eq_false_iff_not]; omega
        have HT : Hid (str (txt M) = b) := by show _ = _; rw [HF.out (.inl h0)]; exact BS.out
        clear htl hi0 hb1
        go_wp2_with fail
        refine (text_is (a := M) (Env.get E (A := A6) (n := n6) (c := c6) (by simp)) (by omega) HT.out).mono ?_; rintro e w7 ⟨rfl, hb⟩; replace E := Env.step E hb
        clear hb
        go_wp2_with fail
        refine (awake_any _).mono ?_; rintro e w99 ⟨rfl, hb⟩; replace E := Env.step E hb
        clear hb
        go_wp2_with fail
        go_ret
        exact ⟨rfl, E.out.1⟩
      · have hb1 : 1 < b.size := by omega
        by_cases hc : c = 48
        · subst hc
          have HX := Lib.hid htl
          clear htl
          go_wp2_with fail
          go_round
          case rel => exact ⟨r, by rw [HX.out], h0, by omega, fun x hx => HL.out x (List.mem_cons_of_mem _ hx), by have := HM.out; rwa [pv_tail] at this⟩
          case measure => show (b.extract 1 (r.length + 1)).size < b.size; rw [HX.out, str_size4]; omega
        · have hc' : ((c : Int) == 48) = false := by rw [beq_eq_false_iff_ne]; omega
          have HT : Hid (str (txt M) = b) := by show _ = _; rw [HF.out (.inr hc)]; exact BS.out
          clear htl hc
          go_wp2_with fail
          refine (text_is (a := M) (Env.get E (A := A6) (n := n6) (c := c6) (by simp)) (by omega) HT.out).mono ?_; rintro e w7 ⟨rfl, hb⟩; replace E := Env.step E hb
          clear hb
          go_wp2_with fail
          refine (awake_any _).mono ?_; rintro e w99 ⟨rfl, hb⟩; replace E := Env.step E hb
          clear hb
          go_wp2_with fail
          go_ret
          exact ⟨rfl, E.out.1⟩

theorem back_law (W : World) (a : Option Addr) (n c : Nat) (x : List Nat) (h : Hid (Lim W W.heap.size a n c x)) (s : ByteArray) (hs : s.size ≤ maxLen) (N : Nat) (hN : N ≤ 255) :
    Calls Tryd.prog 4 #[.slice a n c, .string s, .int .u8 N] W (RetVal W (.bool true)) := by
  cases hl : decide (60 < (n : Int)) with
  | true => exact back_bad a n c N s x W h hs (.inl hl)
  | false =>
    cases hr : rightB x with
    | false => exact back_bad a n c N s x W h hs (.inr (.inl ⟨hl, hr⟩))
    | true =>
      rcases Nat.lt_or_ge 400 s.size with h4 | h4
      · exact back_bad a n c N s x W h hs (.inr (.inr ⟨hl, hr, h4⟩))
      · exact back_good a n c _ N s W (h.out.num hr) hl h4 hN

end Go.Proofs.YtecgmdomhbmbkaaDoor
