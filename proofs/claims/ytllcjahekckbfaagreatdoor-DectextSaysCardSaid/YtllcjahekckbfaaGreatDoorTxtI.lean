/-
  Layer 7, the document's answers, the second part: whole, put, Text, Plain, Commas.
-/
import Derived.Test.YtllcjahekckbfaaGreatDoorTxtH
set_option linter.unusedVariables false
set_option linter.unusedSimpArgs false
namespace Go.Proofs.YtllcjahekckbfaaGreatDoor
open Go.RowKit

theorem zeros_ten {q : Nat} (hq : q ≤ 10) : (ByteArray.mk #[48, 48, 48, 48, 48, 48, 48, 48, 48, 48]).extract 0 q = str (List.replicate q 48) := by
  have e : (ByteArray.mk #[48, 48, 48, 48, 48, 48, 48, 48, 48, 48]) = str (List.replicate 10 48) := rfl
  rw [e, str_take, List.take_replicate, Nat.min_eq_left hq]
/-- What whole's text is cut into. -/
theorem whole_cut {a s k : Nat} (h : (k = 0 ∧ s < nd a) ∨ k + nd a = s + 1) : (List.replicate k 48 ++ txt a).take (k + nd a - s) = txt (a / 10 ^ s) ∧ (List.replicate k 48 ++ txt a).drop (k + nd a - s) = pad s a := by
  rcases h with ⟨rfl, h⟩ | h
  · simp only [List.replicate_zero, List.nil_append, Nat.zero_add]
    exact ⟨take_txt s a h, txt_drop (by omega)⟩
  · rw [← pad_zeros, h, show s + 1 - s = 1 by omega, pad_cons]
    rcases Nat.eq_zero_or_pos k with rfl | hk
    · rw [Nat.zero_add] at h
      have h1 := take_txt s a (by omega)
      have h2 : txt a = pad (s + 1) a := by rw [← h]; exact txt_eq_pad a
      rw [h, show s + 1 - s = 1 by omega, h2, pad_cons] at h1
      exact ⟨h1, rfl⟩
    · have h1 : a / 10 ^ s = 0 := div_ge_nd (by omega)
      rw [h1, txt_zero]
      exact ⟨rfl, rfl⟩

set_option maxRecDepth 100000 in
set_option maxHeartbeats 2000000 in
theorem refWhole_any (A : Option Addr) (n c s : Nat) (i : Int) (w : World) (h : Num w w.heap.size A n c i.natAbs) (hn : n ≤ 1000) (hs : s ≤ 1000) :
    Calls Tryz.prog 28 #[.agg #[.bool (ngB i), .slice A n c, .int .i64 (s : Int)]] w (RetVal w (.tuple #[.string (str (txt (i.natAbs / 10 ^ s))), .string (str (pad s i.natAbs))])) := by
  have H := Lib.hid h
  have hnd : nd i.natAbs ≤ 10000 := by have := nd_le_len h.len; omega
  have hnp := nd_pos i.natAbs
  have CT : Hid (∀ w', Num w' w'.heap.size A n c i.natAbs → Calls Tryz.prog 48 #[.slice A n c] w' (RetVal w' (.string (str (txt i.natAbs))))) := fun w' h' => refText_is h' (by omega) rfl
  obtain ⟨K, hK⟩ : ∃ K, K = nd i.natAbs := ⟨_, rfl⟩
  rw [← hK] at hnd hnp
  have HK := Lib.hid hK
  have HSZ : Hid (∀ k, (str (List.replicate k 48 ++ txt i.natAbs)).size = k + K) := by
    intro k; rw [str_size, List.length_append, List.length_replicate, HK.out]; rfl
  clear h hK
  go_enter Tryz.func28, Tryz.ntmps28
  go_wp2_with fail
  generalize hW : World.alloc w _ = W0
  have E0 : St w W0 [(A, n, c, i.natAbs)] [(w.heap.size, .bool (ngB i), .slice A n c, .int .i64 (s : Int))] := by rw [← hW]; exact (start_one H.out).lay rfl
  have E := Lib.hid E0
  clear hW E0
  obtain ⟨p0, p1, p2, pf0, pf1, pf2, plt⟩ := St.at_ (x0 := .bool (ngB i)) (x1 := .slice A n c) (x2 := .int .i64 (s : Int)) (g := w.heap.size) E (by simp)
  go_wp2_with fail
  refine (CT.out _ (St.got E (by simp))).mono ?_; rintro e w1 ⟨rfl, hb1⟩; replace E := Lib.hid (St.step E.out hb1); clear hb1 p0 p1 p2 pf0 pf1 pf2 plt
  obtain ⟨p0, p1, p2, pf0, pf1, pf2, plt⟩ := St.at_ (x0 := .bool (ngB i)) (x1 := .slice A n c) (x2 := .int .i64 (s : Int)) (g := w.heap.size) E (by simp)
  clear CT
  go_wp2_with fail
  go_loop [4] (fun sv => ∃ k : Nat, (k = 0 ∨ k + K ≤ s + 1) ∧ sv = .string (str (List.replicate k 48 ++ txt i.natAbs))) (fun sv => match sv with | .string S => s + 1 - S.size | _ => 0)
  case atStart => exact ⟨0, .inl rfl, rfl⟩
  case round =>
    obtain ⟨k, hk, rfl⟩ := hrel
    have hkb : k ≤ 1001 := by omega
    have hz := HSZ.out k
    obtain ⟨S, hS⟩ : ∃ S, S = str (List.replicate k 48 ++ txt i.natAbs) := ⟨_, rfl⟩
    rw [← hS] at hz
    have hzz : (S.size : Int) = (k : Int) + (K : Int) := by omega
    have hsc : codes S = List.replicate k 48 ++ txt i.natAbs := by
      rw [hS]; exact codes_str (app_lt (fun x hx => by rw [(List.mem_replicate.1 hx).2]; omega) (txt_bytes _))
    have HSC := Lib.hid hsc
    have HZ := Lib.hid hz
    rcases Nat.lt_or_ge s (k + K) with hgt | hle
    · have h1 : (s : Int) < (S.size : Int) := by omega
      obtain ⟨m, hm⟩ : ∃ m, m = k + K - s := ⟨_, rfl⟩
      have em : (S.size : Int) - (s : Int) = (m : Int) := by omega
      have hm1 : m ≤ S.size := by omega
      have HC : Hid (S.extract 0 m = str (txt (i.natAbs / 10 ^ s)) ∧ S.extract m S.size = str (pad s i.natAbs)) := by
        have e := whole_cut (a := i.natAbs) (s := s) (k := k) (by rw [← HK.out]; omega)
        rw [← HK.out] at e
        rw [extract_to, extract_from S m _ rfl, HSC.out, hm, e.1, e.2]
        exact ⟨rfl, rfl⟩
      rw [← hS]
      have hSb : S.size ≤ 20000 := by omega
      clear hS hz hsc hzz hm hk
      go_wp2_with fail
      go_quiet (fail)
      go_wp2_with fail
      go_ret2
      exact ⟨by rw [← HC.out.1, ← HC.out.2]; rfl, E.out.bel.trans (Below.of_quiet.mono E.out.bel.size)⟩
    · have h1 : (S.size : Int) ≤ (s : Int) := by omega
      obtain ⟨m, hm⟩ : ∃ m, m = min 10 (s + 1 - (k + K)) := ⟨_, rfl⟩
      have hm10 : m ≤ 10 := by omega
      have hm0 : 0 < m := by omega
      have hmn := min_gen (P := Tryz.prog) (x := 10) (y := (s : Int) + 1 - (S.size : Int)) (z := (m : Int)) (by omega)
      have hz10 : (ByteArray.mk #[48, 48, 48, 48, 48, 48, 48, 48, 48, 48]).size = 10 := rfl
      have ha : ∀ w', (Op.stringOp .add ((ByteArray.mk #[48, 48, 48, 48, 48, 48, 48, 48, 48, 48]).extract 0 m) S).run Tryz.prog w' = .ok (.string (str (List.replicate (m + k) 48 ++ txt i.natAbs))) w' := fun w' =>
        str_add7 (by rw [zeros_ten hm10, codes_str (by intro x hx; rw [(List.mem_replicate.1 hx).2]; omega), hsc, ← List.append_assoc, List.replicate_append_replicate]) (by rw [zeros_ten hm10, str_size, List.length_replicate]; omega) w'
      have HN : Hid ((str (List.replicate (m + k) 48 ++ txt i.natAbs)).size = m + S.size) := by show _ = _; rw [HSZ.out, HZ.out]; omega
      have hmb : m + (k + K) ≤ s + 1 := by omega
      rw [← hS]
      clear hS hz hsc hzz hm hk
      go_wp2_with fail
      go_round
      case rel => exact ⟨m + k, .inr (by omega), rfl⟩
      case measure => have := HN.out; have := HZ.out; simp only; omega

set_option maxRecDepth 100000 in
theorem refPut_any (b : Bool) (x y : List Nat) (w : World) (hx : ∀ c ∈ x, c < 256) (hy : ∀ c ∈ y, c < 256) (hxl : x.length ≤ 100000) (hyl : y.length ≤ 100000) :
    Calls Tryz.prog 29 #[.bool b, .string (str x), .string (str y)] w (RetVal w (.string (str ((if b then [45] else []) ++ (x ++ (if y = [] then [] else 46 :: y)))))) := by
  have hcx := codes_str hx
  have hcy := codes_str hy
  have hsx := str_size x
  have hsy := str_size y
  obtain ⟨X, hX⟩ : ∃ X, X = str x := ⟨_, rfl⟩
  by_cases h0 : y = []
  · subst h0
    rw [if_pos rfl, List.append_nil, str_nil]
    cases b with
    | true =>
      rw [if_pos rfl]
      have ha : ∀ w', (Op.stringOp .add ⟨#[45]⟩ (str x)).run Tryz.prog w' = .ok (.string (str ([45] ++ x))) w' := fun w' => str_add7 (by rw [hcx]; rfl) (by rw [hsx]; show 1 + _ ≤ _; omega) w'
      obtain ⟨Z, hZ⟩ : ∃ Z, Z = str ([45] ++ x) := ⟨_, rfl⟩
      rw [← hX, ← hZ] at ha
      rw [← hX, ← hZ]
      clear hX hZ hcx hcy hsx hsy hx hy
      go_enter Tryz.func29, Tryz.ntmps29
      go_wp2
      go_ret
      exact ⟨rfl, Below.refl _ _⟩
    | false =>
      rw [if_neg (by decide), List.nil_append, ← hX]
      clear hX hcx hcy hsx hsy hx hy
      go_enter Tryz.func29, Tryz.ntmps29
      go_wp2
      go_ret
      exact ⟨rfl, Below.refl _ _⟩
  · rw [if_neg h0]
    have hYp := str_pos h0
    have ha1 : ∀ w', (Op.stringOp .add ⟨#[46]⟩ (str y)).run Tryz.prog w' = .ok (.string (str (46 :: y))) w' := fun w' => str_add7 (by rw [hcy]; rfl) (by rw [hsy]; show 1 + _ ≤ _; omega) w'
    have ha2 : ∀ w', (Op.stringOp .add (str x) (str (46 :: y))).run Tryz.prog w' = .ok (.string (str (x ++ 46 :: y))) w' := fun w' => str_add _ _ (by rw [List.length_cons]; omega) w'
    have ha3 : ∀ w', (Op.stringOp .add ⟨#[45]⟩ (str (x ++ 46 :: y))).run Tryz.prog w' = .ok (.string (str ([45] ++ (x ++ 46 :: y)))) w' := fun w' => str_add7 (by rw [codes_str (app_lt hx (fun c hc => (List.mem_cons.1 hc).elim (fun e => by omega) (fun e => hy c e)))]; rfl) (by rw [str_size, List.length_append, List.length_cons]; show 1 + _ ≤ _; omega) w'
    obtain ⟨Y, hY⟩ : ∃ Y, Y = str y := ⟨_, rfl⟩
    obtain ⟨Y1, hY1⟩ : ∃ Y, Y = str (46 :: y) := ⟨_, rfl⟩
    obtain ⟨Y2, hY2⟩ : ∃ Y, Y = str (x ++ 46 :: y) := ⟨_, rfl⟩
    rw [← hY, ← hY1] at ha1
    rw [← hX, ← hY1, ← hY2] at ha2
    rw [← hY2] at ha3
    rw [← hY] at hYp
    obtain ⟨he1, he2, he3, he4⟩ := str_ne hYp
    cases b with
    | true =>
      rw [if_pos rfl]
      obtain ⟨Z, hZ⟩ : ∃ Z, Z = str ([45] ++ (x ++ 46 :: y)) := ⟨_, rfl⟩
      rw [← hZ] at ha3
      rw [← hX, ← hY, ← hZ]
      clear hX hZ hY hY1 hY2 hcx hcy hsx hsy hx hy h0
      go_enter Tryz.func29, Tryz.ntmps29
      go_wp2
      go_ret
      exact ⟨rfl, Below.refl _ _⟩
    | false =>
      rw [if_neg (by decide), List.nil_append, ← hX, ← hY, ← hY2]
      clear hX hY hY1 hY2 hcx hcy hsx hsy hx hy ha3 h0
      go_enter Tryz.func29, Tryz.ntmps29
      go_wp2
      go_ret
      exact ⟨rfl, Below.refl _ _⟩

/-- What put makes of the parts of a decimal. -/
theorem put_parts (i : Int) (s : Nat) (x : List Nat) : (if ngB i then [45] else []) ++ (x ++ (if pad s i.natAbs = [] then [] else 46 :: pad s i.natAbs)) = sgT i ++ (x ++ beh s i.natAbs) := by
  have h1 : (if ngB i then [45] else []) = sgT i := by unfold sgT ngB; simp
  have h2 : (if pad s i.natAbs = [] then [] else 46 :: pad s i.natAbs) = beh s i.natAbs := by
    unfold beh
    have hl := pad_len s i.natAbs
    by_cases h0 : s = 0
    · subst h0; rfl
    · rw [if_neg h0, if_neg (fun e => by rw [e] at hl; simp at hl; omega)]
  rw [h1, h2]
theorem pad_bytes (s a : Nat) : ∀ c ∈ pad s a, c < 256 := fun c hc => by have := digs_pad s a c hc; omega

set_option maxRecDepth 100000 in
set_option maxHeartbeats 2000000 in
theorem refText7_any (A : Option Addr) (n c s : Nat) (i : Int) (w : World) (h : Num w w.heap.size A n c i.natAbs) (hn : n ≤ 1000) (hs : s ≤ 1000) :
    Calls Tryz.prog 9 #[.agg #[.bool (ngB i), .slice A n c, .int .i64 (s : Int)]] w (RetVal w (.string (str (txtD i s)))) := by
  have H := Lib.hid h
  have hb := (nd_bound h hn s).1
  have CW : Hid (∀ w', Num w' w'.heap.size A n c i.natAbs → Calls Tryz.prog 28 #[.agg #[.bool (ngB i), .slice A n c, .int .i64 (s : Int)]] w' (RetVal w' (.tuple #[.string (str (txt (i.natAbs / 10 ^ s))), .string (str (pad s i.natAbs))]))) := fun w' h' => refWhole_any A n c s i w' h' hn hs
  have CP : Hid (∀ w', Calls Tryz.prog 29 #[.bool (ngB i), .string (str (txt (i.natAbs / 10 ^ s))), .string (str (pad s i.natAbs))] w' (RetVal w' (.string (str (txtD i s))))) := by
    intro w'
    have e := refPut_any (ngB i) (txt (i.natAbs / 10 ^ s)) (pad s i.natAbs) w' (txt_bytes _) (pad_bytes _ _) (by omega) (by rw [pad_len]; omega)
    rw [put_parts] at e; exact e
  obtain ⟨S1, hS1⟩ : ∃ S, S = str (txt (i.natAbs / 10 ^ s)) := ⟨_, rfl⟩
  obtain ⟨S2, hS2⟩ : ∃ S, S = str (pad s i.natAbs) := ⟨_, rfl⟩
  obtain ⟨S3, hS3⟩ : ∃ S, S = str (txtD i s) := ⟨_, rfl⟩
  rw [← hS1, ← hS2] at CW
  rw [← hS1, ← hS2, ← hS3] at CP
  rw [← hS3]
  clear hS1 hS2 hS3 h hb
  go_enter Tryz.func9, Tryz.ntmps9
  go_wp2_with fail
  generalize hW : World.alloc w _ = W0
  have E0 : St w W0 [(A, n, c, i.natAbs)] [(w.heap.size, .bool (ngB i), .slice A n c, .int .i64 (s : Int))] := by rw [← hW]; exact (start_one H.out).lay rfl
  have E := Lib.hid E0
  clear hW E0
  obtain ⟨p0, p1, p2, pf0, pf1, pf2, plt⟩ := St.at_ (x0 := .bool (ngB i)) (x1 := .slice A n c) (x2 := .int .i64 (s : Int)) (g := w.heap.size) E (by simp)
  go_wp2_with fail
  refine (CW.out _ (St.got E (by simp))).mono ?_; rintro e w1 ⟨rfl, hb1⟩; replace E := Lib.hid (St.step E.out hb1); clear hb1 p0 p1 p2 pf0 pf1 pf2 plt
  obtain ⟨p0, p1, p2, pf0, pf1, pf2, plt⟩ := St.at_ (x0 := .bool (ngB i)) (x1 := .slice A n c) (x2 := .int .i64 (s : Int)) (g := w.heap.size) E (by simp)
  go_wp2_with fail
  refine (CP.out _).mono ?_; rintro e w2 ⟨rfl, hb1⟩; replace E := Lib.hid (St.step E.out hb1); clear hb1
  go_wp2_with fail
  go_ret
  exact ⟨rfl, E.out.bel⟩

set_option maxRecDepth 100000 in
set_option maxHeartbeats 2000000 in
theorem refPlain_any (A : Option Addr) (n c s : Nat) (i : Int) (w : World) (h : Num w w.heap.size A n c i.natAbs) (hn : n ≤ 1000) (hs : s ≤ 1000) :
    Calls Tryz.prog 11 #[.agg #[.bool (ngB i), .slice A n c, .int .i64 (s : Int)]] w (RetVal w (.string (str (txtD (stripI i s 0) (s - stripK i s 0))))) := by
  have H := Lib.hid h
  have CS : Hid (∀ w', Num w' w'.heap.size A n c i.natAbs → Calls Tryz.prog 31 #[.agg #[.bool (ngB i), .slice A n c, .int .i64 (s : Int)], .int .i64 0] w' (RetDec w' (stripI i s 0) (s - stripK i s 0))) := fun w' h' => refstrip_is5 (L := 0) h' hn (by omega) (by omega) (by omega) rfl rfl
  have hk : s - stripK i s 0 ≤ 1000 := by omega
  have hx : (dg (stripI i s 0).natAbs).length ≤ 1000 := by
    have h1 : (stripI i s 0).natAbs ≤ i.natAbs := by unfold stripI; rw [abs_sgn]; exact Nat.div_le_self _ _
    have h2 := dg_len_mono h1
    have h3 := h.len
    omega
  obtain ⟨x, hxx⟩ : ∃ x, x = stripI i s 0 := ⟨_, rfl⟩
  obtain ⟨k, hkk⟩ : ∃ k, k = s - stripK i s 0 := ⟨_, rfl⟩
  rw [← hxx, ← hkk] at CS
  rw [← hkk] at hk
  rw [← hxx] at hx
  rw [← hxx, ← hkk]
  clear hxx hkk h
  have HX := Lib.hid hx
  clear hx
  go_enter Tryz.func11, Tryz.ntmps11
  go_wp2_with fail
  generalize hW : World.alloc w _ = W0
  have E0 : St w W0 [(A, n, c, i.natAbs)] [(w.heap.size, .bool (ngB i), .slice A n c, .int .i64 (s : Int))] := by rw [← hW]; exact (start_one H.out).lay rfl
  have E := Lib.hid E0
  clear hW E0
  obtain ⟨p0, p1, p2, pf0, pf1, pf2, plt⟩ := St.at_ (x0 := .bool (ngB i)) (x1 := .slice A n c) (x2 := .int .i64 (s : Int)) (g := w.heap.size) E (by simp)
  go_wp2_with fail
  refine (CS.out _ (St.got E (by simp))).mono ?_; rintro e w1 ⟨A1, n1, c1, rfl, h1, hb1⟩; replace E := Lib.hid (St.push E.out hb1 h1); clear hb1 h1 p0 p1 p2 pf0 pf1 pf2 plt
  go_wp2_with fail
  refine (refText7_any A1 n1 c1 k x _ (St.got E (by simp)) (len_le (St.got E (A := A1) (n := n1) (c := c1) (a := x.natAbs) (by simp)) HX.out) hk).mono ?_; rintro e w2 ⟨rfl, hb1⟩; replace E := Lib.hid (St.step E.out hb1); clear hb1
  go_wp2_with fail
  go_ret
  exact ⟨rfl, E.out.bel⟩

set_option maxRecDepth 100000 in
set_option maxHeartbeats 4000000 in
theorem refCommas_any (A : Option Addr) (n c s : Nat) (i : Int) (w : World) (h : Num w w.heap.size A n c i.natAbs) (hn : n ≤ 1000) (hs : s ≤ 1000) :
    Calls Tryz.prog 13 #[.agg #[.bool (ngB i), .slice A n c, .int .i64 (s : Int)]] w (RetVal w (.string (str (comD i s)))) := by
  have H := Lib.hid h
  have hb := nd_bound h hn s
  have HBB : Hid ((txt (i.natAbs / 10 ^ s)).length ≤ 10000) := hb.1
  have CW : Hid (∀ w', Num w' w'.heap.size A n c i.natAbs → Calls Tryz.prog 28 #[.agg #[.bool (ngB i), .slice A n c, .int .i64 (s : Int)]] w' (RetVal w' (.tuple #[.string (str (txt (i.natAbs / 10 ^ s))), .string (str (pad s i.natAbs))]))) := fun w' h' => refWhole_any A n c s i w' h' hn hs
  have CP : Hid (∀ w', Calls Tryz.prog 29 #[.bool (ngB i), .string (str (grp (txt (i.natAbs / 10 ^ s)))), .string (str (pad s i.natAbs))] w' (RetVal w' (.string (str (comD i s))))) := by
    intro w'
    have e := refPut_any (ngB i) (grp (txt (i.natAbs / 10 ^ s))) (pad s i.natAbs) w' (grp_lt (txt_bytes _)) (pad_bytes _ _) (by omega) (by rw [pad_len]; omega)
    rw [put_parts] at e; exact e
  obtain ⟨S2, hS2⟩ : ∃ S, S = str (pad s i.natAbs) := ⟨_, rfl⟩
  obtain ⟨S3, hS3⟩ : ∃ S, S = str (comD i s) := ⟨_, rfl⟩
  rw [← hS2] at CW
  rw [← hS2, ← hS3] at CP
  rw [← hS3]
  have HTL := Lib.hid (txt_bytes (i.natAbs / 10 ^ s))
  obtain ⟨T, hT⟩ : ∃ T, T = txt (i.natAbs / 10 ^ s) := ⟨_, rfl⟩
  rw [← hT] at CW CP HTL HBB
  clear hS2 hS3 h hb hT
  go_enter Tryz.func13, Tryz.ntmps13
  go_wp2_with fail
  generalize hW : World.alloc w _ = W0
  have E0 : St w W0 [(A, n, c, i.natAbs)] [(w.heap.size, .bool (ngB i), .slice A n c, .int .i64 (s : Int))] := by rw [← hW]; exact (start_one H.out).lay rfl
  have E := Lib.hid E0
  clear hW E0
  obtain ⟨p0, p1, p2, pf0, pf1, pf2, plt⟩ := St.at_ (x0 := .bool (ngB i)) (x1 := .slice A n c) (x2 := .int .i64 (s : Int)) (g := w.heap.size) E (by simp)
  go_wp2_with fail
  refine (CW.out _ (St.got E (by simp))).mono ?_; rintro e w1 ⟨rfl, hb1⟩; replace E := Lib.hid (St.step E.out hb1); clear hb1 p0 p1 p2 pf0 pf1 pf2 plt
  obtain ⟨p0, p1, p2, pf0, pf1, pf2, plt⟩ := St.at_ (x0 := .bool (ngB i)) (x1 := .slice A n c) (x2 := .int .i64 (s : Int)) (g := w.heap.size) E (by simp)
  clear CW
  go_wp2_with fail
  go_loop [3, 5] (fun av ov => ∃ a o : List Nat, av = .string (str a) ∧ ov = .string (str o) ∧ grp T = grp a ++ o ∧ a.length + o.length ≤ 10000 + 2 * (10000 - a.length) ∧ a.length ≤ 10000 ∧ (∀ c ∈ a, c < 256) ∧ (∀ c ∈ o, c < 256)) (fun av _ => match av with | .string S => S.size | _ => 0)
  case atStart => exact ⟨T, [], rfl, rfl, by rw [List.append_nil], by have := HBB.out; simp; omega, HBB.out, HTL.out, fun c hc => absurd hc List.not_mem_nil⟩
  case round =>
    obtain ⟨a, o, rfl, rfl, hg, hl, hal, ha, ho⟩ := hrel
    have HG := Lib.hid hg
    have HA := Lib.hid ha
    have HO := Lib.hid ho
    clear hg ha ho
    have hca : codes (str a) = a := codes_str HA.out
    have hsa := str_size a
    rcases Nat.lt_or_ge 3 a.length with h3 | h3
    · obtain ⟨m, hm⟩ : ∃ m, m = a.length - 3 := ⟨_, rfl⟩
      have hy3 : (a.drop m).length = 3 := by rw [List.length_drop]; omega
      have hx3 : (a.take m).length = m := by rw [List.length_take]; omega
      have e1 : (str a).extract m (str a).size = str (a.drop m) := by rw [extract_from _ m _ rfl, hca]
      have e2 : (str a).extract 0 m = str (a.take m) := by rw [extract_to, hca]
      have hd1 : ∀ w', (Op.stringOp .add ⟨#[44]⟩ ((str a).extract m (str a).size)).run Tryz.prog w' = .ok (.string (str (44 :: a.drop m))) w' := fun w' => by
        rw [e1]; exact str_add7 (by rw [codes_str (fun x hx => HA.out x (List.mem_of_mem_drop hx))]; rfl) (by rw [str_size, hy3]; decide) w'
      have hd2 : ∀ w', (Op.stringOp .add (str (44 :: a.drop m)) (str o)).run Tryz.prog w' = .ok (.string (str ((44 :: a.drop m) ++ o))) w' := fun w' => str_add _ _ (by rw [List.length_cons, hy3]; omega) w'
      have HN : Hid (grp T = grp (a.take m) ++ ((44 :: a.drop m) ++ o)) := by
        show _ = _
        rw [HG.out]
        have e := grp_app hy3 (a.take m) (fun e => by rw [e] at hx3; simp at hx3; omega)
        rw [List.take_append_drop] at e
        rw [e, List.append_assoc]
      have hlen : (a.take m).length + ((44 :: a.drop m) ++ o).length ≤ 10000 + 2 * (10000 - (a.take m).length) := by rw [hx3, List.length_append, List.length_cons, hy3]; omega
      have HLEN := Lib.hid hlen
      have HX3 := Lib.hid hx3
      have HMS := Lib.hid hm
      have HSX : Hid ((str (a.take m)).size = m) := by show _ = _; rw [str_size, hx3]
      have HSA := Lib.hid hsa
      have hz3 : (3 : Int) < ((str a).size : Int) := by rw [hsa]; omega
      have hz4 : ((str a).size : Int) - 3 = (m : Int) := by rw [hsa]; omega
      have hz5 : m ≤ (str a).size := by rw [hsa]; omega
      have hz6 : (str a).size ≤ 10000 := by rw [hsa]; omega
      obtain ⟨Sa, hSa⟩ : ∃ S, S = str a := ⟨_, rfl⟩
      rw [← hSa] at hd1 hz3 hz4 hz5 hz6 HSA e2
      have HE2 := Lib.hid e2
      rw [← hSa]
      clear hlen hm hy3 hx3 e1 e2 hca hsa hl hSa
      go_wp2_with fail
      go_round
      case rel => exact ⟨a.take m, (44 :: a.drop m) ++ o, by rw [← HE2.out], rfl, HN.out, HLEN.out, by rw [HX3.out]; omega, fun x hx => HA.out x (List.mem_of_mem_take hx), app_lt (fun x hx => (List.mem_cons.1 hx).elim (fun e => by omega) (fun e => HA.out x (List.mem_of_mem_drop e))) HO.out⟩
      case measure => have := HSX.out; have := HSA.out; have := HMS.out; have e := HE2.out; simp only; rw [e]; omega
    · have hd : ∀ w', (Op.stringOp .add (str a) (str o)).run Tryz.prog w' = .ok (.string (str (grp T))) w' := fun w' => by
        rw [HG.out, grp_short h3]; exact str_add _ _ (by omega) w'
      have hz3 : ((str a).size : Int) ≤ 3 := by rw [hsa]; omega
      obtain ⟨Sa, hSa⟩ : ∃ S, S = str a := ⟨_, rfl⟩
      rw [← hSa] at hd hz3
      rw [← hSa]
      clear hca hsa hl hSa
      go_wp2_with fail
      refine (CP.out _).mono ?_; rintro e w2 ⟨rfl, hb1⟩; replace E := Lib.hid (St.step E.out hb1); clear hb1
      go_wp2_with fail
      go_ret
      exact ⟨rfl, E.out.bel⟩

end Go.Proofs.YtllcjahekckbfaaGreatDoor
