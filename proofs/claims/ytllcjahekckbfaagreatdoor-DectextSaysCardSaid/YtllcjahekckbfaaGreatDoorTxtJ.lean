/-
  Layer 7, the document's answers, the third part: Parse.
-/
import Derived.Test.YtllcjahekckbfaaGreatDoorTxtI
set_option linter.unusedVariables false
set_option linter.unusedSimpArgs false
namespace Go.Proofs.YtllcjahekckbfaaGreatDoor
open Go.RowKit

set_option maxRecDepth 100000 in
theorem refGroups_empty (w : World) : Calls Tryz.prog 25 #[.string ⟨#[]⟩] w (RetVal w (.tuple #[.string ⟨#[]⟩, .bool false])) := by
  go_enter Tryz.func25, Tryz.ntmps25
  go_wp2_with fail
  go_loop [4, 5, 6, 10] (fun ov rv cv iv => ov = .string ⟨#[]⟩ ∧ rv = .int .i64 0 ∧ cv = .bool false ∧ iv = .int .i64 0) (fun _ _ _ _ => 0)
  case atStart => exact ⟨rfl, rfl, rfl, rfl⟩
  case round =>
    obtain ⟨rfl, rfl, rfl, rfl⟩ := hrel
    go_wp2_with fail
    go_ret2
    exact ⟨rfl, Below.refl _ _⟩
/-- groups hands back no. -/
def RetNo (W : World) (e : Ending) (w' : World) : Prop := ∃ S, RetVal W (.tuple #[.string S, .bool false]) e w'
theorem groups_no {l : List Nat} (hl : ∀ c ∈ l, c < 256) (hs : l.length ≤ 10000) (h : l = [] ∨ gst l 0 false = false) (w : World) : Calls Tryz.prog 25 #[.string (str l)] w (RetNo w) := by
  by_cases h0 : l = []
  · subst h0
    exact (refGroups_empty w).mono fun e w' h => ⟨_, h⟩
  · have hc := codes_str hl
    refine (refGroups_any (str l) w (str_pos h0) (by rw [str_size]; exact hs)).mono fun e w' hr => ?_
    rw [hc] at hr
    rcases hr with ⟨h1, -⟩ | ⟨-, h2⟩
    · rcases h with h | h
      · exact absurd h h0
      · rw [h] at h1; cases h1
    · exact h2
theorem groups_yes {l : List Nat} (hl : ∀ c ∈ l, c < 256) (hs : l.length ≤ 10000) (h0 : l ≠ []) (h : gst l 0 false = true) (w : World) : Calls Tryz.prog 25 #[.string (str l)] w (RetVal w (.tuple #[.string (str (nocom l)), .bool true])) := by
  have hc := codes_str hl
  refine (refGroups_any (str l) w (str_pos h0) (by rw [str_size]; exact hs)).mono fun e w' hr => ?_
  rw [hc] at hr
  rcases hr with ⟨-, h2⟩ | ⟨h1, -⟩
  · exact h2
  · rw [h] at h1; cases h1
theorem dotB_cons_ne {x : Nat} {l : List Nat} (h : x ≠ 46) : dotB (x :: l) = dotB l := by
  unfold dotB
  rw [Bool.eq_iff_iff, List.contains_iff_mem, List.contains_iff_mem, List.mem_cons]
  constructor
  · rintro (e | e)
    · exact absurd e.symm h
    · exact e
  · exact Or.inr
theorem dotB_cons_eq {l : List Nat} : dotB (46 :: l) = true := by unfold dotB; simp
theorem ahd_nodot {l : List Nat} (h : dotB l = false) : ahd l = l := by
  induction l with
  | nil => rfl
  | cons c l ih =>
    have hc : c ≠ 46 := fun e => by subst e; rw [dotB_cons_eq] at h; cases h
    rw [dotB_cons_ne hc] at h
    rw [ahd_cons_ne _ hc, ih h]
theorem dgB_cons {x : Nat} {l : List Nat} : dgB (x :: l) = true ↔ (48 ≤ x ∧ x ≤ 57) ∧ dgB l = true := by
  rw [dgB_iff, digs_cons, dgB_iff]
theorem dgB_cons_yes {x : Nat} {l : List Nat} (h : 48 ≤ x ∧ x ≤ 57) : dgB (x :: l) = dgB l := by
  rw [Bool.eq_iff_iff, dgB_cons]; exact ⟨fun h' => h'.2, fun h' => ⟨h, h'⟩⟩
theorem dgB_cons_no {x : Nat} {l : List Nat} (h : ¬ (48 ≤ x ∧ x ≤ 57)) : dgB (x :: l) = false := by
  cases hx : dgB (x :: l) with
  | false => rfl
  | true => exact absurd (dgB_cons.1 hx).1 h

set_option maxRecDepth 100000 in
set_option maxHeartbeats 4000000 in
theorem rr_short_n (s : ByteArray) (r : List Nat) (w : World) (hs : s.size ≤ 1000) (hL : codes s = r) (hh : r.head? ≠ some 45 ∧ r.head? ≠ some 43) (hr : r = []) :
    Calls Tryz.prog 7 #[.string s] w (RetErr w 2) := by
  have hlt : ∀ c ∈ codes s, c < 256 := codes_lt s
  have hll := codes_len s
  have hrlt : ∀ c ∈ r, c < 256 := fun c hc => hlt c (by rw [hL]; exact hc)
  have hrl : r.length ≤ 1000 := by rw [← hL, hll]; omega
  have hsr : s = str r := by rw [← hL, str_codes]
  rw [hr, str_nil] at hsr
  subst hsr
  clear hL hr hrlt hrl hlt hll hh hs
  go_enter Tryz.func7, Tryz.ntmps7
  go_wp2_with fail
  generalize hW : World.alloc w _ = W0
  have E0 : St w W0 [] [(w.heap.size, .bool false, .slice none 0 0, .int .i64 0)] := by rw [← hW]; exact (St.start w (l := []) (fun q hq => absurd hq List.not_mem_nil)).lay rfl
  have E := Lib.hid E0
  clear hW E0
  obtain ⟨e0, e1, e2, _, _, _, _⟩ := St.at_ (x0 := .bool false) (x1 := .slice none 0 0) (x2 := .int .i64 0) (g := w.heap.size) E (by simp)
  exact bodyPost_ret (v := .tuple #[.agg #[.bool false, .slice none 0 0, .int .i64 0], .int .i64 2]) (by simp [results, Tryz.results7, go_sem, e0, e1, e2]) rfl ⟨rfl, E.out.bel⟩

set_option maxRecDepth 100000 in
set_option maxHeartbeats 4000000 in
theorem rr_tail_nd (s : ByteArray) (r : List Nat) (w : World) (hs : s.size ≤ 1000) (hL : codes s = r) (hh : r.head? ≠ some 45 ∧ r.head? ≠ some 43) (hr : r ≠ []) (hd : dotB r = true) (hb : bhd r = []) :
    Calls Tryz.prog 7 #[.string s] w (RetErr w 3) := by
  have hlt : ∀ c ∈ codes s, c < 256 := codes_lt s
  have hll := codes_len s
  have hrlt : ∀ c ∈ r, c < 256 := fun c hc => hlt c (by rw [hL]; exact hc)
  have hrl : r.length ≤ 1000 := by rw [← hL, hll]; omega
  have hsr : s = str r := by rw [← hL, str_codes]
  have hs0 : 0 < s.size := by rw [← hll, hL]; exact List.length_pos_iff.2 hr
  have hx0 : (s[0]'hs0).toNat ≠ 45 ∧ (s[0]'hs0).toNat ≠ 43 := by
    have e := codes_head s hs0
    rw [hL] at e
    rw [e] at hh
    simpa using hh
  have b1 : (((s[0]'hs0).toNat : Int) == 45) = false := by rw [beq_eq_false_iff_ne]; omega
  have b2 : (((s[0]'hs0).toNat : Int) == 43) = false := by rw [beq_eq_false_iff_ne]; omega
  obtain ⟨he1, he2, he3, he4⟩ := str_ne hs0
  have hSp := str_pos hr
  have hSc : codes (str r) = r := codes_str hrlt
  have hSs : (str r).size = r.length := str_size r
  rw [← hsr] at hSp hSc hSs
  obtain ⟨S, hS⟩ : ∃ S, S = s := ⟨_, rfl⟩
  subst hS
  clear hsr
  have hSb : S.size ≤ 1000 := by omega
  have hab := ahd_bhd_len r
  obtain ⟨Q, hQ⟩ : ∃ Q, Q = str (bhd r) := ⟨_, rfl⟩
  have hQc : codes Q = bhd r := by rw [hQ]; exact codes_str (fun c hc => hrlt c (bhd_sub _ c hc))
  have hQs : Q.size = (bhd r).length := by rw [hQ]; exact str_size _
  have hQb : Q.size ≤ 1000 := by omega
  rw [hb, str_nil] at hQ
  subst hQ
  obtain ⟨P, hP⟩ : ∃ P, P = str (ahd r) := ⟨_, rfl⟩
  have HSC := Lib.hid hSc
  have HSL := Lib.hid hSs
  have HD := Lib.hid hd
  have HQC := Lib.hid hQc
  have HB := Lib.hid hb
  have HP := Lib.hid hP
  clear hSc hSs hd hab hrlt hrl hlt hll hL hr hx0 hQc hQs hb hP hh
  go_enter Tryz.func7, Tryz.ntmps7
  go_wp2_with fail
  generalize hW : World.alloc w _ = W0
  have E0 : St w W0 [] [(w.heap.size, .bool false, .slice none 0 0, .int .i64 0)] := by rw [← hW]; exact (St.start w (l := []) (fun q hq => absurd hq List.not_mem_nil)).lay rfl
  have E := Lib.hid E0
  clear hW E0
  go_loop [5, 6, 36] (fun pv qv iv => pv = .string S ∧ qv = .string ⟨#[]⟩ ∧ ∃ j : Nat, j ≤ S.size ∧ iv = .int .i64 j ∧ ahd r = r.take j ++ ahd (r.drop j) ∧ bhd r = bhd (r.drop j) ∧ dotB r = dotB (r.drop j)) (fun _ _ iv => S.size - (intOf iv).toNat)
  case atStart => exact ⟨rfl, rfl, 0, Nat.zero_le _, rfl, rfl, rfl, rfl⟩
  case round =>
    obtain ⟨rfl, rfl, j, hj, rfl, ha, hb, hd⟩ := hrel
    have RA := Lib.hid ha
    have RB := Lib.hid hb
    have RD := Lib.hid hd
    clear ha hb hd
    rcases Nat.lt_or_ge j S.size with hlt | hge
    · have HX : Hid (r.drop j = (S[j]'hlt).toNat :: r.drop (j + 1)) := (by show _ = _; have e := codes_drop S j hlt; rw [HSC.out] at e; exact e)
      have HTK : Hid (r.take (j + 1) = r.take j ++ [(S[j]'hlt).toNat]) := (by show _ = _; have e := codes_take S j hlt; rw [HSC.out] at e; exact e)
      obtain ⟨x, hx⟩ : ∃ x, x = (S[j]'hlt).toNat := ⟨_, rfl⟩
      rw [← hx] at HX HTK
      by_cases kx : x = 46
      · have c1 : (((S[j]'hlt).toNat : Int) == 46) = true := by rw [← hx, kx]; rfl
        have eP : S.extract 0 j = P := by rw [extract_to, HSC.out, HP.out, RA.out, HX.out, kx, ahd_cons_eq, List.append_nil]
        have eQ : S.extract (j + 1) S.size = ⟨#[]⟩ := by rw [extract_from S (j + 1) _ rfl, HSC.out, ← str_nil, ← HB.out, RB.out, HX.out, kx, bhd_cons_eq]
        have j1 : j ≤ S.size := by omega
        have j2 : j + 1 ≤ S.size := by omega
        clear hx kx HX HTK RA RB RD
        go_wp2_with fail
        go_quiet (fail)
        rename_i nq
        replace E := Lib.hid (St.step (w' := World.drewN W0 nq) E.out Below.of_quiet)
        generalize World.drewN W0 nq = W1 at E ⊢
        obtain ⟨r0, r1, r2, rf0, rf1, rf2, rlt⟩ := St.at_ (x0 := .bool false) (x1 := .slice none 0 0) (x2 := .int .i64 0) (g := w.heap.size) E (by simp)
        go_wp2_with fail
        have EF := Lib.hid (St.store E.out (g := w.heap.size) (x0 := .bool false) (x1 := .slice none 0 0) (x2 := .int .i64 0) (by simp) (noLimb_bool _) (noLimb_slice _ _ _) (noLimb_int _) [] (fun q hq => by cases hq) (.bool false) (.slice none 0 0) (.int .i64 0))
        obtain ⟨e0, e1, e2, _, _, _, _⟩ := St.at_ (x0 := .bool false) (x1 := .slice none 0 0) (x2 := .int .i64 0) (g := w.heap.size) EF (by simp)
        exact bodyPost_ret (v := .tuple #[.agg #[.bool false, .slice none 0 0, .int .i64 0], .int .i64 3]) (by simp [results, Tryz.results7, go_sem, e0, e1, e2]) rfl ⟨rfl, EF.out.bel⟩
      · have c1 : (((S[j]'hlt).toNat : Int) == 46) = false := by rw [← hx, beq_eq_false_iff_ne]; omega
        have N1 : Hid (ahd r = r.take (j + 1) ++ ahd (r.drop (j + 1))) := by show _ = _; rw [RA.out, HX.out, ahd_cons_ne _ kx, HTK.out, List.append_assoc]; rfl
        have N2 : Hid (bhd r = bhd (r.drop (j + 1))) := by show _ = _; rw [RB.out, HX.out, bhd_cons_ne _ kx]
        have N3 : Hid (dotB r = dotB (r.drop (j + 1))) := by show _ = _; rw [RD.out, HX.out, dotB_cons_ne kx]
        clear hx kx HX HTK RA RB RD
        go_wp2_with fail
        go_round
        case rel => exact ⟨rfl, rfl, j + 1, by omega, by go_num, N1.out, N2.out, N3.out⟩
        case measure => simp [intOf]; omega
    · obtain rfl : j = S.size := by omega
      exact absurd (HD.out.symm.trans (RD.out.trans (show dotB (r.drop S.size) = false by rw [List.drop_of_length_le (by rw [HSL.out]; exact Nat.le_refl _)]; rfl))) (by decide)

set_option maxRecDepth 100000 in
set_option maxHeartbeats 4000000 in
theorem rr_tdig_nd (s : ByteArray) (r : List Nat) (w : World) (hs : s.size ≤ 1000) (hL : codes s = r) (hh : r.head? ≠ some 45 ∧ r.head? ≠ some 43) (hr : r ≠ []) (hd : dotB r = true) (hb : bhd r ≠ []) (ht : dgB (bhd r) = false) :
    Calls Tryz.prog 7 #[.string s] w (RetErr w 3) := by
  have hlt : ∀ c ∈ codes s, c < 256 := codes_lt s
  have hll := codes_len s
  have hrlt : ∀ c ∈ r, c < 256 := fun c hc => hlt c (by rw [hL]; exact hc)
  have hrl : r.length ≤ 1000 := by rw [← hL, hll]; omega
  have hsr : s = str r := by rw [← hL, str_codes]
  have hs0 : 0 < s.size := by rw [← hll, hL]; exact List.length_pos_iff.2 hr
  have hx0 : (s[0]'hs0).toNat ≠ 45 ∧ (s[0]'hs0).toNat ≠ 43 := by
    have e := codes_head s hs0
    rw [hL] at e
    rw [e] at hh
    simpa using hh
  have b1 : (((s[0]'hs0).toNat : Int) == 45) = false := by rw [beq_eq_false_iff_ne]; omega
  have b2 : (((s[0]'hs0).toNat : Int) == 43) = false := by rw [beq_eq_false_iff_ne]; omega
  obtain ⟨he1, he2, he3, he4⟩ := str_ne hs0
  have hSp := str_pos hr
  have hSc : codes (str r) = r := codes_str hrlt
  have hSs : (str r).size = r.length := str_size r
  rw [← hsr] at hSp hSc hSs
  obtain ⟨S, hS⟩ : ∃ S, S = s := ⟨_, rfl⟩
  subst hS
  clear hsr
  have hSb : S.size ≤ 1000 := by omega
  have hab := ahd_bhd_len r
  obtain ⟨Q, hQ⟩ : ∃ Q, Q = str (bhd r) := ⟨_, rfl⟩
  have hQc : codes Q = bhd r := by rw [hQ]; exact codes_str (fun c hc => hrlt c (bhd_sub _ c hc))
  have hQs : Q.size = (bhd r).length := by rw [hQ]; exact str_size _
  have hQb : Q.size ≤ 1000 := by omega
  have hQp : 0 < Q.size := by rw [hQs]; exact List.length_pos_iff.2 hb
  obtain ⟨hq1, hq2, hq3, hq4⟩ := str_ne hQp
  obtain ⟨P, hP⟩ : ∃ P, P = str (ahd r) := ⟨_, rfl⟩
  have HSC := Lib.hid hSc
  have HSL := Lib.hid hSs
  have HD := Lib.hid hd
  have HQC := Lib.hid hQc
  have HQ := Lib.hid hQ
  have HB := Lib.hid hb
  have HP := Lib.hid hP
  have HT := Lib.hid ht
  clear hSc hSs hd hab hrlt hrl hlt hll hL hr hx0 hQc hQs hQ hb hP ht hh
  go_enter Tryz.func7, Tryz.ntmps7
  go_wp2_with fail
  generalize hW : World.alloc w _ = W0
  have E0 : St w W0 [] [(w.heap.size, .bool false, .slice none 0 0, .int .i64 0)] := by rw [← hW]; exact (St.start w (l := []) (fun q hq => absurd hq List.not_mem_nil)).lay rfl
  have E := Lib.hid E0
  clear hW E0
  go_loop [5, 6, 36] (fun pv qv iv => pv = .string S ∧ qv = .string ⟨#[]⟩ ∧ ∃ j : Nat, j ≤ S.size ∧ iv = .int .i64 j ∧ ahd r = r.take j ++ ahd (r.drop j) ∧ bhd r = bhd (r.drop j) ∧ dotB r = dotB (r.drop j)) (fun _ _ iv => S.size - (intOf iv).toNat)
  case atStart => exact ⟨rfl, rfl, 0, Nat.zero_le _, rfl, rfl, rfl, rfl⟩
  case round =>
    obtain ⟨rfl, rfl, j, hj, rfl, ha, hb, hd⟩ := hrel
    have RA := Lib.hid ha
    have RB := Lib.hid hb
    have RD := Lib.hid hd
    clear ha hb hd
    rcases Nat.lt_or_ge j S.size with hlt | hge
    · have HX : Hid (r.drop j = (S[j]'hlt).toNat :: r.drop (j + 1)) := (by show _ = _; have e := codes_drop S j hlt; rw [HSC.out] at e; exact e)
      have HTK : Hid (r.take (j + 1) = r.take j ++ [(S[j]'hlt).toNat]) := (by show _ = _; have e := codes_take S j hlt; rw [HSC.out] at e; exact e)
      obtain ⟨x, hx⟩ : ∃ x, x = (S[j]'hlt).toNat := ⟨_, rfl⟩
      rw [← hx] at HX HTK
      by_cases kx : x = 46
      · have c1 : (((S[j]'hlt).toNat : Int) == 46) = true := by rw [← hx, kx]; rfl
        have eP : S.extract 0 j = P := by rw [extract_to, HSC.out, HP.out, RA.out, HX.out, kx, ahd_cons_eq, List.append_nil]
        have eQ : S.extract (j + 1) S.size = Q := by rw [extract_from S (j + 1) _ rfl, HSC.out, HQ.out, RB.out, HX.out, kx, bhd_cons_eq]
        have j1 : j ≤ S.size := by omega
        have j2 : j + 1 ≤ S.size := by omega
        clear hx kx HX HTK RA RB RD
        go_wp2_with fail
        go_quiet (fail)
        rename_i nq
        replace E := Lib.hid (St.step (w' := World.drewN W0 nq) E.out Below.of_quiet)
        generalize World.drewN W0 nq = W1 at E ⊢
        go_wp2_with fail
        go_loop [56] (fun iv => ∃ k : Nat, k ≤ Q.size ∧ iv = .int .i64 k ∧ dgB (bhd r) = dgB ((bhd r).drop k)) (fun iv => Q.size - (intOf iv).toNat)
        case atStart => exact ⟨0, Nat.zero_le _, rfl, rfl⟩
        case round =>
          obtain ⟨k, hk, rfl, hdk⟩ := hrel
          have RK := Lib.hid hdk
          clear hdk
          rcases Nat.lt_or_ge k Q.size with hkl | hkg
          · have HX : Hid ((bhd r).drop k = (Q[k]'hkl).toNat :: (bhd r).drop (k + 1)) := (by show _ = _; have e := codes_drop Q k hkl; rw [HQC.out] at e; exact e)
            obtain ⟨x, hx⟩ : ∃ x, x = (Q[k]'hkl).toNat := ⟨_, rfl⟩
            rw [← hx] at HX
            by_cases kx : 48 ≤ x ∧ x ≤ 57
            · have CD := Lib.hid (refDigit_yes (v := ((Q[k]'hkl).toNat : Int)) W1 (by rw [← hx]; omega) (by rw [← hx]; omega))
              have N1 : Hid (dgB (bhd r) = dgB ((bhd r).drop (k + 1))) := by show _ = _; rw [RK.out, HX.out, dgB_cons_yes kx]
              clear hx kx HX RK
              go_wp2_with fail
              refine CD.out.mono ?_; rintro e w2 ⟨rfl, rfl⟩
              clear CD
              go_wp2_with fail
              go_round
              case rel => exact ⟨k + 1, by omega, by go_num, N1.out⟩
              case measure => simp [intOf]; omega
            · have CD := Lib.hid (refDigit_no (v := ((Q[k]'hkl).toNat : Int)) W1 (by rw [← hx]; omega))
              clear hx kx HX RK
              go_wp2_with fail
              refine CD.out.mono ?_; rintro e w2 ⟨rfl, rfl⟩
              clear CD
              obtain ⟨r0, r1, r2, rf0, rf1, rf2, rlt⟩ := St.at_ (x0 := .bool false) (x1 := .slice none 0 0) (x2 := .int .i64 0) (g := w.heap.size) E (by simp)
              go_wp2_with fail
              have EF := Lib.hid (St.store E.out (g := w.heap.size) (x0 := .bool false) (x1 := .slice none 0 0) (x2 := .int .i64 0) (by simp) (noLimb_bool _) (noLimb_slice _ _ _) (noLimb_int _) [] (fun q hq => by cases hq) (.bool false) (.slice none 0 0) (.int .i64 0))
              obtain ⟨e0, e1, e2, _, _, _, _⟩ := St.at_ (x0 := .bool false) (x1 := .slice none 0 0) (x2 := .int .i64 0) (g := w.heap.size) EF (by simp)
              exact bodyPost_ret (v := .tuple #[.agg #[.bool false, .slice none 0 0, .int .i64 0], .int .i64 3]) (by simp [results, Tryz.results7, go_sem, e0, e1, e2]) rfl ⟨rfl, EF.out.bel⟩
          · exact absurd (HT.out.symm.trans (RK.out.trans (show dgB ((bhd r).drop k) = true by rw [List.drop_of_length_le (by have e := codes_len Q; rw [HQC.out] at e; rw [e]; exact hkg)]; rfl))) (by decide)
      · have c1 : (((S[j]'hlt).toNat : Int) == 46) = false := by rw [← hx, beq_eq_false_iff_ne]; omega
        have N1 : Hid (ahd r = r.take (j + 1) ++ ahd (r.drop (j + 1))) := by show _ = _; rw [RA.out, HX.out, ahd_cons_ne _ kx, HTK.out, List.append_assoc]; rfl
        have N2 : Hid (bhd r = bhd (r.drop (j + 1))) := by show _ = _; rw [RB.out, HX.out, bhd_cons_ne _ kx]
        have N3 : Hid (dotB r = dotB (r.drop (j + 1))) := by show _ = _; rw [RD.out, HX.out, dotB_cons_ne kx]
        clear hx kx HX HTK RA RB RD
        go_wp2_with fail
        go_round
        case rel => exact ⟨rfl, rfl, j + 1, by omega, by go_num, N1.out, N2.out, N3.out⟩
        case measure => simp [intOf]; omega
    · obtain rfl : j = S.size := by omega
      exact absurd (HD.out.symm.trans (RD.out.trans (show dotB (r.drop S.size) = false by rw [List.drop_of_length_le (by rw [HSL.out]; exact Nat.le_refl _)]; rfl))) (by decide)

set_option maxRecDepth 100000 in
set_option maxHeartbeats 4000000 in
theorem rr_ung_nd (s : ByteArray) (r : List Nat) (w : World) (hs : s.size ≤ 1000) (hL : codes s = r) (hh : r.head? ≠ some 45 ∧ r.head? ≠ some 43) (hr : r ≠ []) (hd : dotB r = true) (hb : bhd r ≠ []) (ht : dgB (bhd r) = true) (hg : ahd r = [] ∨ gst (ahd r) 0 false = false) :
    Calls Tryz.prog 7 #[.string s] w (RetErr w 3) := by
  have hlt : ∀ c ∈ codes s, c < 256 := codes_lt s
  have hll := codes_len s
  have hrlt : ∀ c ∈ r, c < 256 := fun c hc => hlt c (by rw [hL]; exact hc)
  have hrl : r.length ≤ 1000 := by rw [← hL, hll]; omega
  have hsr : s = str r := by rw [← hL, str_codes]
  have hs0 : 0 < s.size := by rw [← hll, hL]; exact List.length_pos_iff.2 hr
  have hx0 : (s[0]'hs0).toNat ≠ 45 ∧ (s[0]'hs0).toNat ≠ 43 := by
    have e := codes_head s hs0
    rw [hL] at e
    rw [e] at hh
    simpa using hh
  have b1 : (((s[0]'hs0).toNat : Int) == 45) = false := by rw [beq_eq_false_iff_ne]; omega
  have b2 : (((s[0]'hs0).toNat : Int) == 43) = false := by rw [beq_eq_false_iff_ne]; omega
  obtain ⟨he1, he2, he3, he4⟩ := str_ne hs0
  have hSp := str_pos hr
  have hSc : codes (str r) = r := codes_str hrlt
  have hSs : (str r).size = r.length := str_size r
  rw [← hsr] at hSp hSc hSs
  obtain ⟨S, hS⟩ : ∃ S, S = s := ⟨_, rfl⟩
  subst hS
  clear hsr
  have hSb : S.size ≤ 1000 := by omega
  have hab := ahd_bhd_len r
  obtain ⟨Q, hQ⟩ : ∃ Q, Q = str (bhd r) := ⟨_, rfl⟩
  have hQc : codes Q = bhd r := by rw [hQ]; exact codes_str (fun c hc => hrlt c (bhd_sub _ c hc))
  have hQs : Q.size = (bhd r).length := by rw [hQ]; exact str_size _
  have hQb : Q.size ≤ 1000 := by omega
  have hQp : 0 < Q.size := by rw [hQs]; exact List.length_pos_iff.2 hb
  obtain ⟨hq1, hq2, hq3, hq4⟩ := str_ne hQp
  obtain ⟨P, hP⟩ : ∃ P, P = str (ahd r) := ⟨_, rfl⟩
  have CG : Hid (∀ w', Calls Tryz.prog 25 #[.string P] w' (RetNo w')) := fun w' => by
    rw [hP]; exact groups_no (fun c hc => hrlt c (ahd_sub _ c hc)) (by omega) hg w'
  clear hg
  have HSC := Lib.hid hSc
  have HSL := Lib.hid hSs
  have HD := Lib.hid hd
  have HQC := Lib.hid hQc
  have HQ := Lib.hid hQ
  have HB := Lib.hid hb
  have HP := Lib.hid hP
  have HT := Lib.hid ht
  clear hSc hSs hd hab hrlt hrl hlt hll hL hr hx0 hQc hQs hQ hb hP ht hh
  go_enter Tryz.func7, Tryz.ntmps7
  go_wp2_with fail
  generalize hW : World.alloc w _ = W0
  have E0 : St w W0 [] [(w.heap.size, .bool false, .slice none 0 0, .int .i64 0)] := by rw [← hW]; exact (St.start w (l := []) (fun q hq => absurd hq List.not_mem_nil)).lay rfl
  have E := Lib.hid E0
  clear hW E0
  go_loop [5, 6, 36] (fun pv qv iv => pv = .string S ∧ qv = .string ⟨#[]⟩ ∧ ∃ j : Nat, j ≤ S.size ∧ iv = .int .i64 j ∧ ahd r = r.take j ++ ahd (r.drop j) ∧ bhd r = bhd (r.drop j) ∧ dotB r = dotB (r.drop j)) (fun _ _ iv => S.size - (intOf iv).toNat)
  case atStart => exact ⟨rfl, rfl, 0, Nat.zero_le _, rfl, rfl, rfl, rfl⟩
  case round =>
    obtain ⟨rfl, rfl, j, hj, rfl, ha, hb, hd⟩ := hrel
    have RA := Lib.hid ha
    have RB := Lib.hid hb
    have RD := Lib.hid hd
    clear ha hb hd
    rcases Nat.lt_or_ge j S.size with hlt | hge
    · have HX : Hid (r.drop j = (S[j]'hlt).toNat :: r.drop (j + 1)) := (by show _ = _; have e := codes_drop S j hlt; rw [HSC.out] at e; exact e)
      have HTK : Hid (r.take (j + 1) = r.take j ++ [(S[j]'hlt).toNat]) := (by show _ = _; have e := codes_take S j hlt; rw [HSC.out] at e; exact e)
      obtain ⟨x, hx⟩ : ∃ x, x = (S[j]'hlt).toNat := ⟨_, rfl⟩
      rw [← hx] at HX HTK
      by_cases kx : x = 46
      · have c1 : (((S[j]'hlt).toNat : Int) == 46) = true := by rw [← hx, kx]; rfl
        have eP : S.extract 0 j = P := by rw [extract_to, HSC.out, HP.out, RA.out, HX.out, kx, ahd_cons_eq, List.append_nil]
        have eQ : S.extract (j + 1) S.size = Q := by rw [extract_from S (j + 1) _ rfl, HSC.out, HQ.out, RB.out, HX.out, kx, bhd_cons_eq]
        have j1 : j ≤ S.size := by omega
        have j2 : j + 1 ≤ S.size := by omega
        clear hx kx HX HTK RA RB RD
        go_wp2_with fail
        go_quiet (fail)
        rename_i nq
        replace E := Lib.hid (St.step (w' := World.drewN W0 nq) E.out Below.of_quiet)
        generalize World.drewN W0 nq = W1 at E ⊢
        go_wp2_with fail
        go_loop [56] (fun iv => ∃ k : Nat, k ≤ Q.size ∧ iv = .int .i64 k ∧ dgB (bhd r) = dgB ((bhd r).drop k)) (fun iv => Q.size - (intOf iv).toNat)
        case atStart => exact ⟨0, Nat.zero_le _, rfl, rfl⟩
        case round =>
          obtain ⟨k, hk, rfl, hdk⟩ := hrel
          have RK := Lib.hid hdk
          clear hdk
          rcases Nat.lt_or_ge k Q.size with hkl | hkg
          · have HX : Hid ((bhd r).drop k = (Q[k]'hkl).toNat :: (bhd r).drop (k + 1)) := (by show _ = _; have e := codes_drop Q k hkl; rw [HQC.out] at e; exact e)
            obtain ⟨x, hx⟩ : ∃ x, x = (Q[k]'hkl).toNat := ⟨_, rfl⟩
            rw [← hx] at HX
            by_cases kx : 48 ≤ x ∧ x ≤ 57
            · have CD := Lib.hid (refDigit_yes (v := ((Q[k]'hkl).toNat : Int)) W1 (by rw [← hx]; omega) (by rw [← hx]; omega))
              have N1 : Hid (dgB (bhd r) = dgB ((bhd r).drop (k + 1))) := by show _ = _; rw [RK.out, HX.out, dgB_cons_yes kx]
              clear hx kx HX RK
              go_wp2_with fail
              refine CD.out.mono ?_; rintro e w2 ⟨rfl, rfl⟩
              clear CD
              go_wp2_with fail
              go_round
              case rel => exact ⟨k + 1, by omega, by go_num, N1.out⟩
              case measure => simp [intOf]; omega
            · exact absurd (HT.out.symm.trans (RK.out.trans (show dgB ((bhd r).drop k) = false by rw [HX.out, dgB_cons_no kx]))) (by decide)
          · obtain rfl : k = Q.size := by omega
            clear RK
            go_wp2_with fail
            refine (CG.out _).mono ?_; rintro e w3 ⟨SX, rfl, hb1⟩; replace E := Lib.hid (St.step E.out hb1); clear hb1
            obtain ⟨r0, r1, r2, rf0, rf1, rf2, rlt⟩ := St.at_ (x0 := .bool false) (x1 := .slice none 0 0) (x2 := .int .i64 0) (g := w.heap.size) E (by simp)
            go_wp2_with fail
            have EF := Lib.hid (St.store E.out (g := w.heap.size) (x0 := .bool false) (x1 := .slice none 0 0) (x2 := .int .i64 0) (by simp) (noLimb_bool _) (noLimb_slice _ _ _) (noLimb_int _) [] (fun q hq => by cases hq) (.bool false) (.slice none 0 0) (.int .i64 0))
            obtain ⟨e0, e1, e2, _, _, _, _⟩ := St.at_ (x0 := .bool false) (x1 := .slice none 0 0) (x2 := .int .i64 0) (g := w.heap.size) EF (by simp)
            exact bodyPost_ret (v := .tuple #[.agg #[.bool false, .slice none 0 0, .int .i64 0], .int .i64 3]) (by simp [results, Tryz.results7, go_sem, e0, e1, e2]) rfl ⟨rfl, EF.out.bel⟩
      · have c1 : (((S[j]'hlt).toNat : Int) == 46) = false := by rw [← hx, beq_eq_false_iff_ne]; omega
        have N1 : Hid (ahd r = r.take (j + 1) ++ ahd (r.drop (j + 1))) := by show _ = _; rw [RA.out, HX.out, ahd_cons_ne _ kx, HTK.out, List.append_assoc]; rfl
        have N2 : Hid (bhd r = bhd (r.drop (j + 1))) := by show _ = _; rw [RB.out, HX.out, bhd_cons_ne _ kx]
        have N3 : Hid (dotB r = dotB (r.drop (j + 1))) := by show _ = _; rw [RD.out, HX.out, dotB_cons_ne kx]
        clear hx kx HX HTK RA RB RD
        go_wp2_with fail
        go_round
        case rel => exact ⟨rfl, rfl, j + 1, by omega, by go_num, N1.out, N2.out, N3.out⟩
        case measure => simp [intOf]; omega
    · obtain rfl : j = S.size := by omega
      exact absurd (HD.out.symm.trans (RD.out.trans (show dotB (r.drop S.size) = false by rw [List.drop_of_length_le (by rw [HSL.out]; exact Nat.le_refl _)]; rfl))) (by decide)

set_option maxRecDepth 100000 in
set_option maxHeartbeats 4000000 in
theorem rr_ok_nd (s : ByteArray) (r : List Nat) (w : World) (hs : s.size ≤ 1000) (hL : codes s = r) (hh : r.head? ≠ some 45 ∧ r.head? ≠ some 43) (hr : r ≠ []) (hd : dotB r = true) (hb : bhd r ≠ []) (ht : dgB (bhd r) = true) (ha : ahd r ≠ []) (hg : gst (ahd r) 0 false = true) (hdg : digs (digsOf r)) :
    Calls Tryz.prog 7 #[.string s] w (RetDecE w (sgn false (pv (digsOf r))) (bhd r).length) := by
  have hlt : ∀ c ∈ codes s, c < 256 := codes_lt s
  have hll := codes_len s
  have hrlt : ∀ c ∈ r, c < 256 := fun c hc => hlt c (by rw [hL]; exact hc)
  have hrl : r.length ≤ 1000 := by rw [← hL, hll]; omega
  have hsr : s = str r := by rw [← hL, str_codes]
  have hs0 : 0 < s.size := by rw [← hll, hL]; exact List.length_pos_iff.2 hr
  have hx0 : (s[0]'hs0).toNat ≠ 45 ∧ (s[0]'hs0).toNat ≠ 43 := by
    have e := codes_head s hs0
    rw [hL] at e
    rw [e] at hh
    simpa using hh
  have b1 : (((s[0]'hs0).toNat : Int) == 45) = false := by rw [beq_eq_false_iff_ne]; omega
  have b2 : (((s[0]'hs0).toNat : Int) == 43) = false := by rw [beq_eq_false_iff_ne]; omega
  obtain ⟨he1, he2, he3, he4⟩ := str_ne hs0
  have hSp := str_pos hr
  have hSc : codes (str r) = r := codes_str hrlt
  have hSs : (str r).size = r.length := str_size r
  rw [← hsr] at hSp hSc hSs
  obtain ⟨S, hS⟩ : ∃ S, S = s := ⟨_, rfl⟩
  subst hS
  clear hsr
  have hSb : S.size ≤ 1000 := by omega
  have hab := ahd_bhd_len r
  obtain ⟨Q, hQ⟩ : ∃ Q, Q = str (bhd r) := ⟨_, rfl⟩
  have hQc : codes Q = bhd r := by rw [hQ]; exact codes_str (fun c hc => hrlt c (bhd_sub _ c hc))
  have hQs : Q.size = (bhd r).length := by rw [hQ]; exact str_size _
  have hQb : Q.size ≤ 1000 := by omega
  have hQp : 0 < Q.size := by rw [hQs]; exact List.length_pos_iff.2 hb
  obtain ⟨hq1, hq2, hq3, hq4⟩ := str_ne hQp
  obtain ⟨P, hP⟩ : ∃ P, P = str (ahd r) := ⟨_, rfl⟩
  have CG : Hid (∀ w', Calls Tryz.prog 25 #[.string P] w' (RetVal w' (.tuple #[.string (str (nocom (ahd r))), .bool true]))) := fun w' => by
    rw [hP]; exact groups_yes (fun c hc => hrlt c (ahd_sub _ c hc)) (by omega) ha hg w'
  have hdl := digsOf_len r
  have hnl := nocom_len (ahd r)
  have hnc := codes_str (l := nocom (ahd r)) (fun c hc => hrlt c (ahd_sub _ c (nocom_sub _ c hc)))
  have hne : nocom (ahd r) ≠ [] := by
    have e := gst_ungB ha
    rw [hg] at e
    exact nocom_ne ha (Bool.and_eq_true_iff.1 e.symm).1
  have hadd : ∀ w', (Op.stringOp .add (str (nocom (ahd r))) Q).run Tryz.prog w' = .ok (.string (str (digsOf r))) w' := fun w' => str_add7 (by rw [hnc, hQc]; unfold digsOf; rfl) (by rw [str_size]; omega) w'
  have hVc : codes (str (digsOf r)) = digsOf r := codes_str (app_lt (fun c hc => hrlt c (ahd_sub _ c (nocom_sub _ c hc))) (fun c hc => hrlt c (bhd_sub _ c hc)))
  have hVs : (str (digsOf r)).size = (digsOf r).length := str_size _
  have hVp : 0 < (str (digsOf r)).size := by
    rw [hVs]; unfold digsOf; rw [List.length_append]
    have := List.length_pos_iff.2 hne
    omega
  have CP : Hid (∀ w', Calls Tryz.prog 26 #[.string (str (digsOf r))] w' (RetParse w' (digsOf r))) := fun w' => by
    have e := refParse_any (str (digsOf r)) w' hVp (by omega)
    rw [hVc] at e; exact e
  obtain ⟨V, hV⟩ : ∃ V, V = str (digsOf r) := ⟨_, rfl⟩
  obtain ⟨U, hU⟩ : ∃ U, U = str (nocom (ahd r)) := ⟨_, rfl⟩
  rw [← hV, ← hU] at hadd
  rw [← hV] at CP
  rw [← hU] at CG
  have HG := Lib.hid hdg
  have HNUM : Hid ((sgn false (pv (digsOf r))).natAbs = pv (digsOf r)) := abs_sgn _ _
  clear hV hU hVp hVs hVc hdl hne hnc hnl hg hdg ha
  have HBL : Hid (Q.size = (bhd r).length) := hQs
  have HSC := Lib.hid hSc
  have HSL := Lib.hid hSs
  have HD := Lib.hid hd
  have HQC := Lib.hid hQc
  have HQ := Lib.hid hQ
  have HB := Lib.hid hb
  have HP := Lib.hid hP
  have HT := Lib.hid ht
  clear hSc hSs hd hab hrlt hrl hlt hll hL hr hx0 hQc hQs hQ hb hP ht hh
  go_enter Tryz.func7, Tryz.ntmps7
  go_wp2_with fail
  generalize hW : World.alloc w _ = W0
  have E0 : St w W0 [] [(w.heap.size, .bool false, .slice none 0 0, .int .i64 0)] := by rw [← hW]; exact (St.start w (l := []) (fun q hq => absurd hq List.not_mem_nil)).lay rfl
  have E := Lib.hid E0
  clear hW E0
  go_loop [5, 6, 36] (fun pv qv iv => pv = .string S ∧ qv = .string ⟨#[]⟩ ∧ ∃ j : Nat, j ≤ S.size ∧ iv = .int .i64 j ∧ ahd r = r.take j ++ ahd (r.drop j) ∧ bhd r = bhd (r.drop j) ∧ dotB r = dotB (r.drop j)) (fun _ _ iv => S.size - (intOf iv).toNat)
  case atStart => exact ⟨rfl, rfl, 0, Nat.zero_le _, rfl, rfl, rfl, rfl⟩
  case round =>
    obtain ⟨rfl, rfl, j, hj, rfl, ha, hb, hd⟩ := hrel
    have RA := Lib.hid ha
    have RB := Lib.hid hb
    have RD := Lib.hid hd
    clear ha hb hd
    rcases Nat.lt_or_ge j S.size with hlt | hge
    · have HX : Hid (r.drop j = (S[j]'hlt).toNat :: r.drop (j + 1)) := (by show _ = _; have e := codes_drop S j hlt; rw [HSC.out] at e; exact e)
      have HTK : Hid (r.take (j + 1) = r.take j ++ [(S[j]'hlt).toNat]) := (by show _ = _; have e := codes_take S j hlt; rw [HSC.out] at e; exact e)
      obtain ⟨x, hx⟩ : ∃ x, x = (S[j]'hlt).toNat := ⟨_, rfl⟩
      rw [← hx] at HX HTK
      by_cases kx : x = 46
      · have c1 : (((S[j]'hlt).toNat : Int) == 46) = true := by rw [← hx, kx]; rfl
        have eP : S.extract 0 j = P := by rw [extract_to, HSC.out, HP.out, RA.out, HX.out, kx, ahd_cons_eq, List.append_nil]
        have eQ : S.extract (j + 1) S.size = Q := by rw [extract_from S (j + 1) _ rfl, HSC.out, HQ.out, RB.out, HX.out, kx, bhd_cons_eq]
        have j1 : j ≤ S.size := by omega
        have j2 : j + 1 ≤ S.size := by omega
        clear hx kx HX HTK RA RB RD
        go_wp2_with fail
        go_quiet (fail)
        rename_i nq
        replace E := Lib.hid (St.step (w' := World.drewN W0 nq) E.out Below.of_quiet)
        generalize World.drewN W0 nq = W1 at E ⊢
        go_wp2_with fail
        go_loop [56] (fun iv => ∃ k : Nat, k ≤ Q.size ∧ iv = .int .i64 k ∧ dgB (bhd r) = dgB ((bhd r).drop k)) (fun iv => Q.size - (intOf iv).toNat)
        case atStart => exact ⟨0, Nat.zero_le _, rfl, rfl⟩
        case round =>
          obtain ⟨k, hk, rfl, hdk⟩ := hrel
          have RK := Lib.hid hdk
          clear hdk
          rcases Nat.lt_or_ge k Q.size with hkl | hkg
          · have HX : Hid ((bhd r).drop k = (Q[k]'hkl).toNat :: (bhd r).drop (k + 1)) := (by show _ = _; have e := codes_drop Q k hkl; rw [HQC.out] at e; exact e)
            obtain ⟨x, hx⟩ : ∃ x, x = (Q[k]'hkl).toNat := ⟨_, rfl⟩
            rw [← hx] at HX
            by_cases kx : 48 ≤ x ∧ x ≤ 57
            · have CD := Lib.hid (refDigit_yes (v := ((Q[k]'hkl).toNat : Int)) W1 (by rw [← hx]; omega) (by rw [← hx]; omega))
              have N1 : Hid (dgB (bhd r) = dgB ((bhd r).drop (k + 1))) := by show _ = _; rw [RK.out, HX.out, dgB_cons_yes kx]
              clear hx kx HX RK
              go_wp2_with fail
              refine CD.out.mono ?_; rintro e w2 ⟨rfl, rfl⟩
              clear CD
              go_wp2_with fail
              go_round
              case rel => exact ⟨k + 1, by omega, by go_num, N1.out⟩
              case measure => simp [intOf]; omega
            · exact absurd (HT.out.symm.trans (RK.out.trans (show dgB ((bhd r).drop k) = false by rw [HX.out, dgB_cons_no kx]))) (by decide)
          · obtain rfl : k = Q.size := by omega
            clear RK
            go_wp2_with fail
            refine (CG.out _).mono ?_; rintro e w3 ⟨rfl, hb1⟩; replace E := Lib.hid (St.step E.out hb1); clear hb1
            go_wp2_with fail
            clear hadd
            refine (CP.out _).mono ?_
            rintro e w4 (⟨-, A4, n4, c4, rfl, h4, hb1⟩ | ⟨hd, -⟩)
            rotate_left
            · exact absurd HG.out hd
            replace E := Lib.hid (St.push E.out hb1 h4)
            have HPO := Lib.hid (num_pos h4)
            clear hb1 h4
            obtain ⟨r0, r1, r2, rf0, rf1, rf2, rlt⟩ := St.at_ (x0 := .bool false) (x1 := .slice none 0 0) (x2 := .int .i64 0) (g := w.heap.size) E (by simp)
            go_wp2_with fail
            have EF := Lib.hid (St.store E.out (g := w.heap.size) (x0 := .bool false) (x1 := .slice none 0 0) (x2 := .int .i64 0) (by simp) (noLimb_bool _) (noLimb_slice _ _ _) (noLimb_int _) [] (fun q hq => by cases hq) (.bool false) (.slice A4 n4 c4) (.int .i64 (Q.size : Int)))
            obtain ⟨e0, e1, e2, _, _, _, _⟩ := St.at_ (x0 := .bool false) (x1 := .slice A4 n4 c4) (x2 := .int .i64 (Q.size : Int)) (g := w.heap.size) EF (by simp)
            exact bodyPost_ret (v := .tuple #[.agg #[.bool false, .slice A4 n4 c4, .int .i64 (Q.size : Int)], .int .i64 0]) (by simp [results, Tryz.results7, go_sem, e0, e1, e2]) rfl ⟨A4, n4, c4, by rw [ng_sgn, ← HBL.out]; simp, by rw [HNUM.out]; exact St.got EF (by simp), EF.out.bel⟩
      · have c1 : (((S[j]'hlt).toNat : Int) == 46) = false := by rw [← hx, beq_eq_false_iff_ne]; omega
        have N1 : Hid (ahd r = r.take (j + 1) ++ ahd (r.drop (j + 1))) := by show _ = _; rw [RA.out, HX.out, ahd_cons_ne _ kx, HTK.out, List.append_assoc]; rfl
        have N2 : Hid (bhd r = bhd (r.drop (j + 1))) := by show _ = _; rw [RB.out, HX.out, bhd_cons_ne _ kx]
        have N3 : Hid (dotB r = dotB (r.drop (j + 1))) := by show _ = _; rw [RD.out, HX.out, dotB_cons_ne kx]
        clear hx kx HX HTK RA RB RD
        go_wp2_with fail
        go_round
        case rel => exact ⟨rfl, rfl, j + 1, by omega, by go_num, N1.out, N2.out, N3.out⟩
        case measure => simp [intOf]; omega
    · obtain rfl : j = S.size := by omega
      exact absurd (HD.out.symm.trans (RD.out.trans (show dotB (r.drop S.size) = false by rw [List.drop_of_length_le (by rw [HSL.out]; exact Nat.le_refl _)]; rfl))) (by decide)

set_option maxRecDepth 100000 in
set_option maxHeartbeats 4000000 in
theorem rr_ung_nw (s : ByteArray) (r : List Nat) (w : World) (hs : s.size ≤ 1000) (hL : codes s = r) (hh : r.head? ≠ some 45 ∧ r.head? ≠ some 43) (hr : r ≠ []) (hd : dotB r = false) (hg : ahd r = [] ∨ gst (ahd r) 0 false = false) :
    Calls Tryz.prog 7 #[.string s] w (RetErr w 3) := by
  have hlt : ∀ c ∈ codes s, c < 256 := codes_lt s
  have hll := codes_len s
  have hrlt : ∀ c ∈ r, c < 256 := fun c hc => hlt c (by rw [hL]; exact hc)
  have hrl : r.length ≤ 1000 := by rw [← hL, hll]; omega
  have hsr : s = str r := by rw [← hL, str_codes]
  have hs0 : 0 < s.size := by rw [← hll, hL]; exact List.length_pos_iff.2 hr
  have hx0 : (s[0]'hs0).toNat ≠ 45 ∧ (s[0]'hs0).toNat ≠ 43 := by
    have e := codes_head s hs0
    rw [hL] at e
    rw [e] at hh
    simpa using hh
  have b1 : (((s[0]'hs0).toNat : Int) == 45) = false := by rw [beq_eq_false_iff_ne]; omega
  have b2 : (((s[0]'hs0).toNat : Int) == 43) = false := by rw [beq_eq_false_iff_ne]; omega
  obtain ⟨he1, he2, he3, he4⟩ := str_ne hs0
  have hSp := str_pos hr
  have hSc : codes (str r) = r := codes_str hrlt
  have hSs : (str r).size = r.length := str_size r
  rw [← hsr] at hSp hSc hSs
  obtain ⟨S, hS⟩ : ∃ S, S = s := ⟨_, rfl⟩
  subst hS
  clear hsr
  have hSb : S.size ≤ 1000 := by omega
  have hab := ahd_bhd_len r
  have hah := ahd_nodot hd
  have hbh := bhd_nil hd
  have hSr : S = str r := by rw [← hSc, str_codes]
  have CG : Hid (∀ w', Calls Tryz.prog 25 #[.string S] w' (RetNo w')) := fun w' => by
    have e := groups_no (l := ahd r) (fun c hc => hrlt c (ahd_sub _ c hc)) (by omega) hg w'
    rw [hah] at e; rw [hSr]; exact e
  clear hg hah hbh hSr
  have HSC := Lib.hid hSc
  have HSL := Lib.hid hSs
  have HD := Lib.hid hd
  clear hSc hSs hd hab hrlt hrl hlt hll hL hr hx0 hh
  go_enter Tryz.func7, Tryz.ntmps7
  go_wp2_with fail
  generalize hW : World.alloc w _ = W0
  have E0 : St w W0 [] [(w.heap.size, .bool false, .slice none 0 0, .int .i64 0)] := by rw [← hW]; exact (St.start w (l := []) (fun q hq => absurd hq List.not_mem_nil)).lay rfl
  have E := Lib.hid E0
  clear hW E0
  go_loop [5, 6, 36] (fun pv qv iv => pv = .string S ∧ qv = .string ⟨#[]⟩ ∧ ∃ j : Nat, j ≤ S.size ∧ iv = .int .i64 j ∧ ahd r = r.take j ++ ahd (r.drop j) ∧ bhd r = bhd (r.drop j) ∧ dotB r = dotB (r.drop j)) (fun _ _ iv => S.size - (intOf iv).toNat)
  case atStart => exact ⟨rfl, rfl, 0, Nat.zero_le _, rfl, rfl, rfl, rfl⟩
  case round =>
    obtain ⟨rfl, rfl, j, hj, rfl, ha, hb, hd⟩ := hrel
    have RA := Lib.hid ha
    have RB := Lib.hid hb
    have RD := Lib.hid hd
    clear ha hb hd
    rcases Nat.lt_or_ge j S.size with hlt | hge
    · have HX : Hid (r.drop j = (S[j]'hlt).toNat :: r.drop (j + 1)) := (by show _ = _; have e := codes_drop S j hlt; rw [HSC.out] at e; exact e)
      have HTK : Hid (r.take (j + 1) = r.take j ++ [(S[j]'hlt).toNat]) := (by show _ = _; have e := codes_take S j hlt; rw [HSC.out] at e; exact e)
      obtain ⟨x, hx⟩ : ∃ x, x = (S[j]'hlt).toNat := ⟨_, rfl⟩
      rw [← hx] at HX HTK
      by_cases kx : x = 46
      · exact absurd (HD.out.symm.trans (RD.out.trans (show dotB (r.drop j) = true by rw [HX.out, kx]; exact dotB_cons_eq))) (by decide)
      · have c1 : (((S[j]'hlt).toNat : Int) == 46) = false := by rw [← hx, beq_eq_false_iff_ne]; omega
        have N1 : Hid (ahd r = r.take (j + 1) ++ ahd (r.drop (j + 1))) := by show _ = _; rw [RA.out, HX.out, ahd_cons_ne _ kx, HTK.out, List.append_assoc]; rfl
        have N2 : Hid (bhd r = bhd (r.drop (j + 1))) := by show _ = _; rw [RB.out, HX.out, bhd_cons_ne _ kx]
        have N3 : Hid (dotB r = dotB (r.drop (j + 1))) := by show _ = _; rw [RD.out, HX.out, dotB_cons_ne kx]
        clear hx kx HX HTK RA RB RD
        go_wp2_with fail
        go_round
        case rel => exact ⟨rfl, rfl, j + 1, by omega, by go_num, N1.out, N2.out, N3.out⟩
        case measure => simp [intOf]; omega
    · obtain rfl : j = S.size := by omega
      clear RA RB RD
      have hz0 : (ByteArray.mk #[]).size = 0 := rfl
      go_wp2_with fail
      go_loop [56] (fun iv => iv = .int .i64 0) (fun _ => 0)
      case atStart => exact rfl
      case round =>
        obtain rfl := hrel
        go_wp2_with fail
        refine (CG.out _).mono ?_; rintro e w3 ⟨SX, rfl, hb1⟩; replace E := Lib.hid (St.step E.out hb1); clear hb1
        obtain ⟨r0, r1, r2, rf0, rf1, rf2, rlt⟩ := St.at_ (x0 := .bool false) (x1 := .slice none 0 0) (x2 := .int .i64 0) (g := w.heap.size) E (by simp)
        go_wp2_with fail
        have EF := Lib.hid (St.store E.out (g := w.heap.size) (x0 := .bool false) (x1 := .slice none 0 0) (x2 := .int .i64 0) (by simp) (noLimb_bool _) (noLimb_slice _ _ _) (noLimb_int _) [] (fun q hq => by cases hq) (.bool false) (.slice none 0 0) (.int .i64 0))
        obtain ⟨e0, e1, e2, _, _, _, _⟩ := St.at_ (x0 := .bool false) (x1 := .slice none 0 0) (x2 := .int .i64 0) (g := w.heap.size) EF (by simp)
        exact bodyPost_ret (v := .tuple #[.agg #[.bool false, .slice none 0 0, .int .i64 0], .int .i64 3]) (by simp [results, Tryz.results7, go_sem, e0, e1, e2]) rfl ⟨rfl, EF.out.bel⟩

set_option maxRecDepth 100000 in
set_option maxHeartbeats 4000000 in
theorem rr_ok_nw (s : ByteArray) (r : List Nat) (w : World) (hs : s.size ≤ 1000) (hL : codes s = r) (hh : r.head? ≠ some 45 ∧ r.head? ≠ some 43) (hr : r ≠ []) (hd : dotB r = false) (ha : ahd r ≠ []) (hg : gst (ahd r) 0 false = true) (hdg : digs (digsOf r)) :
    Calls Tryz.prog 7 #[.string s] w (RetDecE w (sgn false (pv (digsOf r))) (bhd r).length) := by
  have hlt : ∀ c ∈ codes s, c < 256 := codes_lt s
  have hll := codes_len s
  have hrlt : ∀ c ∈ r, c < 256 := fun c hc => hlt c (by rw [hL]; exact hc)
  have hrl : r.length ≤ 1000 := by rw [← hL, hll]; omega
  have hsr : s = str r := by rw [← hL, str_codes]
  have hs0 : 0 < s.size := by rw [← hll, hL]; exact List.length_pos_iff.2 hr
  have hx0 : (s[0]'hs0).toNat ≠ 45 ∧ (s[0]'hs0).toNat ≠ 43 := by
    have e := codes_head s hs0
    rw [hL] at e
    rw [e] at hh
    simpa using hh
  have b1 : (((s[0]'hs0).toNat : Int) == 45) = false := by rw [beq_eq_false_iff_ne]; omega
  have b2 : (((s[0]'hs0).toNat : Int) == 43) = false := by rw [beq_eq_false_iff_ne]; omega
  obtain ⟨he1, he2, he3, he4⟩ := str_ne hs0
  have hSp := str_pos hr
  have hSc : codes (str r) = r := codes_str hrlt
  have hSs : (str r).size = r.length := str_size r
  rw [← hsr] at hSp hSc hSs
  obtain ⟨S, hS⟩ : ∃ S, S = s := ⟨_, rfl⟩
  subst hS
  clear hsr
  have hSb : S.size ≤ 1000 := by omega
  have hab := ahd_bhd_len r
  have hah := ahd_nodot hd
  have hbh := bhd_nil hd
  have hSr : S = str r := by rw [← hSc, str_codes]
  have CG : Hid (∀ w', Calls Tryz.prog 25 #[.string S] w' (RetVal w' (.tuple #[.string (str (nocom (ahd r))), .bool true]))) := fun w' => by
    have e := groups_yes (l := ahd r) (fun c hc => hrlt c (ahd_sub _ c hc)) (by omega) ha hg w'
    rw [hah] at e; rw [hSr, hah]; exact e
  have hdl := digsOf_len r
  have hnl := nocom_len (ahd r)
  have hnc := codes_str (l := nocom (ahd r)) (fun c hc => hrlt c (ahd_sub _ c (nocom_sub _ c hc)))
  have hne : nocom (ahd r) ≠ [] := by
    have e := gst_ungB ha
    rw [hg] at e
    exact nocom_ne ha (Bool.and_eq_true_iff.1 e.symm).1
  have hadd : ∀ w', (Op.stringOp .add (str (nocom (ahd r))) ⟨#[]⟩).run Tryz.prog w' = .ok (.string (str (digsOf r))) w' := fun w' => str_add7 (by rw [hnc]; unfold digsOf; rw [hbh]; rfl) (by rw [str_size]; show _ + 0 ≤ _; omega) w'
  have hVc : codes (str (digsOf r)) = digsOf r := codes_str (app_lt (fun c hc => hrlt c (ahd_sub _ c (nocom_sub _ c hc))) (fun c hc => hrlt c (bhd_sub _ c hc)))
  have hVs : (str (digsOf r)).size = (digsOf r).length := str_size _
  have hVp : 0 < (str (digsOf r)).size := by
    rw [hVs]; unfold digsOf; rw [List.length_append]
    have := List.length_pos_iff.2 hne
    omega
  have CP : Hid (∀ w', Calls Tryz.prog 26 #[.string (str (digsOf r))] w' (RetParse w' (digsOf r))) := fun w' => by
    have e := refParse_any (str (digsOf r)) w' hVp (by omega)
    rw [hVc] at e; exact e
  obtain ⟨V, hV⟩ : ∃ V, V = str (digsOf r) := ⟨_, rfl⟩
  obtain ⟨U, hU⟩ : ∃ U, U = str (nocom (ahd r)) := ⟨_, rfl⟩
  rw [← hV, ← hU] at hadd
  rw [← hV] at CP
  rw [← hU] at CG
  have HG := Lib.hid hdg
  have HNUM : Hid ((sgn false (pv (digsOf r))).natAbs = pv (digsOf r)) := abs_sgn _ _
  clear hV hU hVp hVs hVc hdl hne hnc hnl hg hdg ha
  have HBL : Hid ((bhd r).length = 0) := (by show _ = _; rw [hbh]; rfl)
  clear hah hbh hSr
  have HSC := Lib.hid hSc
  have HSL := Lib.hid hSs
  have HD := Lib.hid hd
  clear hSc hSs hd hab hrlt hrl hlt hll hL hr hx0 hh
  go_enter Tryz.func7, Tryz.ntmps7
  go_wp2_with fail
  generalize hW : World.alloc w _ = W0
  have E0 : St w W0 [] [(w.heap.size, .bool false, .slice none 0 0, .int .i64 0)] := by rw [← hW]; exact (St.start w (l := []) (fun q hq => absurd hq List.not_mem_nil)).lay rfl
  have E := Lib.hid E0
  clear hW E0
  go_loop [5, 6, 36] (fun pv qv iv => pv = .string S ∧ qv = .string ⟨#[]⟩ ∧ ∃ j : Nat, j ≤ S.size ∧ iv = .int .i64 j ∧ ahd r = r.take j ++ ahd (r.drop j) ∧ bhd r = bhd (r.drop j) ∧ dotB r = dotB (r.drop j)) (fun _ _ iv => S.size - (intOf iv).toNat)
  case atStart => exact ⟨rfl, rfl, 0, Nat.zero_le _, rfl, rfl, rfl, rfl⟩
  case round =>
    obtain ⟨rfl, rfl, j, hj, rfl, ha, hb, hd⟩ := hrel
    have RA := Lib.hid ha
    have RB := Lib.hid hb
    have RD := Lib.hid hd
    clear ha hb hd
    rcases Nat.lt_or_ge j S.size with hlt | hge
    · have HX : Hid (r.drop j = (S[j]'hlt).toNat :: r.drop (j + 1)) := (by show _ = _; have e := codes_drop S j hlt; rw [HSC.out] at e; exact e)
      have HTK : Hid (r.take (j + 1) = r.take j ++ [(S[j]'hlt).toNat]) := (by show _ = _; have e := codes_take S j hlt; rw [HSC.out] at e; exact e)
      obtain ⟨x, hx⟩ : ∃ x, x = (S[j]'hlt).toNat := ⟨_, rfl⟩
      rw [← hx] at HX HTK
      by_cases kx : x = 46
      · exact absurd (HD.out.symm.trans (RD.out.trans (show dotB (r.drop j) = true by rw [HX.out, kx]; exact dotB_cons_eq))) (by decide)
      · have c1 : (((S[j]'hlt).toNat : Int) == 46) = false := by rw [← hx, beq_eq_false_iff_ne]; omega
        have N1 : Hid (ahd r = r.take (j + 1) ++ ahd (r.drop (j + 1))) := by show _ = _; rw [RA.out, HX.out, ahd_cons_ne _ kx, HTK.out, List.append_assoc]; rfl
        have N2 : Hid (bhd r = bhd (r.drop (j + 1))) := by show _ = _; rw [RB.out, HX.out, bhd_cons_ne _ kx]
        have N3 : Hid (dotB r = dotB (r.drop (j + 1))) := by show _ = _; rw [RD.out, HX.out, dotB_cons_ne kx]
        clear hx kx HX HTK RA RB RD
        go_wp2_with fail
        go_round
        case rel => exact ⟨rfl, rfl, j + 1, by omega, by go_num, N1.out, N2.out, N3.out⟩
        case measure => simp [intOf]; omega
    · obtain rfl : j = S.size := by omega
      clear RA RB RD
      have hz0 : (ByteArray.mk #[]).size = 0 := rfl
      go_wp2_with fail
      go_loop [56] (fun iv => iv = .int .i64 0) (fun _ => 0)
      case atStart => exact rfl
      case round =>
        obtain rfl := hrel
        go_wp2_with fail
        refine (CG.out _).mono ?_; rintro e w3 ⟨rfl, hb1⟩; replace E := Lib.hid (St.step E.out hb1); clear hb1
        go_wp2_with fail
        clear hadd
        refine (CP.out _).mono ?_
        rintro e w4 (⟨-, A4, n4, c4, rfl, h4, hb1⟩ | ⟨hd, -⟩)
        rotate_left
        · exact absurd HG.out hd
        replace E := Lib.hid (St.push E.out hb1 h4)
        have HPO := Lib.hid (num_pos h4)
        clear hb1 h4
        obtain ⟨r0, r1, r2, rf0, rf1, rf2, rlt⟩ := St.at_ (x0 := .bool false) (x1 := .slice none 0 0) (x2 := .int .i64 0) (g := w.heap.size) E (by simp)
        go_wp2_with fail
        have EF := Lib.hid (St.store E.out (g := w.heap.size) (x0 := .bool false) (x1 := .slice none 0 0) (x2 := .int .i64 0) (by simp) (noLimb_bool _) (noLimb_slice _ _ _) (noLimb_int _) [] (fun q hq => by cases hq) (.bool false) (.slice A4 n4 c4) (.int .i64 0))
        obtain ⟨e0, e1, e2, _, _, _, _⟩ := St.at_ (x0 := .bool false) (x1 := .slice A4 n4 c4) (x2 := .int .i64 0) (g := w.heap.size) EF (by simp)
        exact bodyPost_ret (v := .tuple #[.agg #[.bool false, .slice A4 n4 c4, .int .i64 0], .int .i64 0]) (by simp [results, Tryz.results7, go_sem, e0, e1, e2]) rfl ⟨A4, n4, c4, by rw [ng_sgn, HBL.out]; simp, by rw [HNUM.out]; exact St.got EF (by simp), EF.out.bel⟩

set_option maxRecDepth 100000 in
set_option maxHeartbeats 4000000 in
theorem rr_short_m (s : ByteArray) (r : List Nat) (w : World) (hs : s.size ≤ 1000) (hL : codes s = 45 :: r) (hr : r = []) :
    Calls Tryz.prog 7 #[.string s] w (RetErr w 2) := by
  have hlt : ∀ c ∈ codes s, c < 256 := codes_lt s
  have hll := codes_len s
  have hs0 : 0 < s.size := by rw [← hll, hL]; simp
  have hrlt : ∀ c ∈ r, c < 256 := fun c hc => hlt c (by rw [hL]; exact List.mem_cons_of_mem _ hc)
  have hx0 : (s[0]'hs0).toNat = 45 := by
    have e := codes_head s hs0
    rw [hL] at e
    injection e with e _
    exact e.symm
  have b1 : (((s[0]'hs0).toNat : Int) == 45) = true := by rw [hx0]; rfl
  obtain ⟨he1, he2, he3, he4⟩ := str_ne hs0
  have hrl : r.length ≤ 1000 := by rw [hL] at hll; simp at hll; omega
  have hext : s.extract 1 s.size = str r := by rw [extract_from s 1 _ rfl, hL]; rfl
  rw [hr, str_nil] at hext
  clear hx0 hL hr hrlt hrl hlt hll
  go_enter Tryz.func7, Tryz.ntmps7
  go_wp2_with fail
  generalize hW : World.alloc w _ = W0
  have E0 : St w W0 [] [(w.heap.size, .bool false, .slice none 0 0, .int .i64 0)] := by rw [← hW]; exact (St.start w (l := []) (fun q hq => absurd hq List.not_mem_nil)).lay rfl
  have E := Lib.hid E0
  clear hW E0
  obtain ⟨e0, e1, e2, _, _, _, _⟩ := St.at_ (x0 := .bool false) (x1 := .slice none 0 0) (x2 := .int .i64 0) (g := w.heap.size) E (by simp)
  exact bodyPost_ret (v := .tuple #[.agg #[.bool false, .slice none 0 0, .int .i64 0], .int .i64 2]) (by simp [results, Tryz.results7, go_sem, e0, e1, e2]) rfl ⟨rfl, E.out.bel⟩

set_option maxRecDepth 100000 in
set_option maxHeartbeats 4000000 in
theorem rr_tail_md (s : ByteArray) (r : List Nat) (w : World) (hs : s.size ≤ 1000) (hL : codes s = 45 :: r) (hr : r ≠ []) (hd : dotB r = true) (hb : bhd r = []) :
    Calls Tryz.prog 7 #[.string s] w (RetErr w 3) := by
  have hlt : ∀ c ∈ codes s, c < 256 := codes_lt s
  have hll := codes_len s
  have hs0 : 0 < s.size := by rw [← hll, hL]; simp
  have hrlt : ∀ c ∈ r, c < 256 := fun c hc => hlt c (by rw [hL]; exact List.mem_cons_of_mem _ hc)
  have hx0 : (s[0]'hs0).toNat = 45 := by
    have e := codes_head s hs0
    rw [hL] at e
    injection e with e _
    exact e.symm
  have b1 : (((s[0]'hs0).toNat : Int) == 45) = true := by rw [hx0]; rfl
  obtain ⟨he1, he2, he3, he4⟩ := str_ne hs0
  have hrl : r.length ≤ 1000 := by rw [hL] at hll; simp at hll; omega
  have hext : s.extract 1 s.size = str r := by rw [extract_from s 1 _ rfl, hL]; rfl
  have hSp := str_pos hr
  have hSc : codes (str r) = r := codes_str hrlt
  have hSs : (str r).size = r.length := str_size r
  obtain ⟨S, hS⟩ : ∃ S, S = str r := ⟨_, rfl⟩
  rw [← hS] at hSp hSc hSs hext
  clear hS
  obtain ⟨hf1, hf2, hf3, hf4⟩ := str_ne hSp
  have hSb : S.size ≤ 1000 := by omega
  have hab := ahd_bhd_len r
  obtain ⟨Q, hQ⟩ : ∃ Q, Q = str (bhd r) := ⟨_, rfl⟩
  have hQc : codes Q = bhd r := by rw [hQ]; exact codes_str (fun c hc => hrlt c (bhd_sub _ c hc))
  have hQs : Q.size = (bhd r).length := by rw [hQ]; exact str_size _
  have hQb : Q.size ≤ 1000 := by omega
  rw [hb, str_nil] at hQ
  subst hQ
  obtain ⟨P, hP⟩ : ∃ P, P = str (ahd r) := ⟨_, rfl⟩
  have HSC := Lib.hid hSc
  have HSL := Lib.hid hSs
  have HD := Lib.hid hd
  have HQC := Lib.hid hQc
  have HB := Lib.hid hb
  have HP := Lib.hid hP
  clear hSc hSs hd hab hrlt hrl hlt hll hL hr hx0 hQc hQs hb hP
  go_enter Tryz.func7, Tryz.ntmps7
  go_wp2_with fail
  generalize hW : World.alloc w _ = W0
  have E0 : St w W0 [] [(w.heap.size, .bool false, .slice none 0 0, .int .i64 0)] := by rw [← hW]; exact (St.start w (l := []) (fun q hq => absurd hq List.not_mem_nil)).lay rfl
  have E := Lib.hid E0
  clear hW E0
  go_loop [5, 6, 36] (fun pv qv iv => pv = .string S ∧ qv = .string ⟨#[]⟩ ∧ ∃ j : Nat, j ≤ S.size ∧ iv = .int .i64 j ∧ ahd r = r.take j ++ ahd (r.drop j) ∧ bhd r = bhd (r.drop j) ∧ dotB r = dotB (r.drop j)) (fun _ _ iv => S.size - (intOf iv).toNat)
  case atStart => exact ⟨rfl, rfl, 0, Nat.zero_le _, rfl, rfl, rfl, rfl⟩
  case round =>
    obtain ⟨rfl, rfl, j, hj, rfl, ha, hb, hd⟩ := hrel
    have RA := Lib.hid ha
    have RB := Lib.hid hb
    have RD := Lib.hid hd
    clear ha hb hd
    rcases Nat.lt_or_ge j S.size with hlt | hge
    · have HX : Hid (r.drop j = (S[j]'hlt).toNat :: r.drop (j + 1)) := (by show _ = _; have e := codes_drop S j hlt; rw [HSC.out] at e; exact e)
      have HTK : Hid (r.take (j + 1) = r.take j ++ [(S[j]'hlt).toNat]) := (by show _ = _; have e := codes_take S j hlt; rw [HSC.out] at e; exact e)
      obtain ⟨x, hx⟩ : ∃ x, x = (S[j]'hlt).toNat := ⟨_, rfl⟩
      rw [← hx] at HX HTK
      by_cases kx : x = 46
      · have c1 : (((S[j]'hlt).toNat : Int) == 46) = true := by rw [← hx, kx]; rfl
        have eP : S.extract 0 j = P := by rw [extract_to, HSC.out, HP.out, RA.out, HX.out, kx, ahd_cons_eq, List.append_nil]
        have eQ : S.extract (j + 1) S.size = ⟨#[]⟩ := by rw [extract_from S (j + 1) _ rfl, HSC.out, ← str_nil, ← HB.out, RB.out, HX.out, kx, bhd_cons_eq]
        have j1 : j ≤ S.size := by omega
        have j2 : j + 1 ≤ S.size := by omega
        clear hx kx HX HTK RA RB RD
        go_wp2_with fail
        go_quiet (fail)
        rename_i nq
        replace E := Lib.hid (St.step (w' := World.drewN W0 nq) E.out Below.of_quiet)
        generalize World.drewN W0 nq = W1 at E ⊢
        obtain ⟨r0, r1, r2, rf0, rf1, rf2, rlt⟩ := St.at_ (x0 := .bool false) (x1 := .slice none 0 0) (x2 := .int .i64 0) (g := w.heap.size) E (by simp)
        go_wp2_with fail
        have EF := Lib.hid (St.store E.out (g := w.heap.size) (x0 := .bool false) (x1 := .slice none 0 0) (x2 := .int .i64 0) (by simp) (noLimb_bool _) (noLimb_slice _ _ _) (noLimb_int _) [] (fun q hq => by cases hq) (.bool false) (.slice none 0 0) (.int .i64 0))
        obtain ⟨e0, e1, e2, _, _, _, _⟩ := St.at_ (x0 := .bool false) (x1 := .slice none 0 0) (x2 := .int .i64 0) (g := w.heap.size) EF (by simp)
        exact bodyPost_ret (v := .tuple #[.agg #[.bool false, .slice none 0 0, .int .i64 0], .int .i64 3]) (by simp [results, Tryz.results7, go_sem, e0, e1, e2]) rfl ⟨rfl, EF.out.bel⟩
      · have c1 : (((S[j]'hlt).toNat : Int) == 46) = false := by rw [← hx, beq_eq_false_iff_ne]; omega
        have N1 : Hid (ahd r = r.take (j + 1) ++ ahd (r.drop (j + 1))) := by show _ = _; rw [RA.out, HX.out, ahd_cons_ne _ kx, HTK.out, List.append_assoc]; rfl
        have N2 : Hid (bhd r = bhd (r.drop (j + 1))) := by show _ = _; rw [RB.out, HX.out, bhd_cons_ne _ kx]
        have N3 : Hid (dotB r = dotB (r.drop (j + 1))) := by show _ = _; rw [RD.out, HX.out, dotB_cons_ne kx]
        clear hx kx HX HTK RA RB RD
        go_wp2_with fail
        go_round
        case rel => exact ⟨rfl, rfl, j + 1, by omega, by go_num, N1.out, N2.out, N3.out⟩
        case measure => simp [intOf]; omega
    · obtain rfl : j = S.size := by omega
      exact absurd (HD.out.symm.trans (RD.out.trans (show dotB (r.drop S.size) = false by rw [List.drop_of_length_le (by rw [HSL.out]; exact Nat.le_refl _)]; rfl))) (by decide)

set_option maxRecDepth 100000 in
set_option maxHeartbeats 4000000 in
theorem rr_tdig_md (s : ByteArray) (r : List Nat) (w : World) (hs : s.size ≤ 1000) (hL : codes s = 45 :: r) (hr : r ≠ []) (hd : dotB r = true) (hb : bhd r ≠ []) (ht : dgB (bhd r) = false) :
    Calls Tryz.prog 7 #[.string s] w (RetErr w 3) := by
  have hlt : ∀ c ∈ codes s, c < 256 := codes_lt s
  have hll := codes_len s
  have hs0 : 0 < s.size := by rw [← hll, hL]; simp
  have hrlt : ∀ c ∈ r, c < 256 := fun c hc => hlt c (by rw [hL]; exact List.mem_cons_of_mem _ hc)
  have hx0 : (s[0]'hs0).toNat = 45 := by
    have e := codes_head s hs0
    rw [hL] at e
    injection e with e _
    exact e.symm
  have b1 : (((s[0]'hs0).toNat : Int) == 45) = true := by rw [hx0]; rfl
  obtain ⟨he1, he2, he3, he4⟩ := str_ne hs0
  have hrl : r.length ≤ 1000 := by rw [hL] at hll; simp at hll; omega
  have hext : s.extract 1 s.size = str r := by rw [extract_from s 1 _ rfl, hL]; rfl
  have hSp := str_pos hr
  have hSc : codes (str r) = r := codes_str hrlt
  have hSs : (str r).size = r.length := str_size r
  obtain ⟨S, hS⟩ : ∃ S, S = str r := ⟨_, rfl⟩
  rw [← hS] at hSp hSc hSs hext
  clear hS
  obtain ⟨hf1, hf2, hf3, hf4⟩ := str_ne hSp
  have hSb : S.size ≤ 1000 := by omega
  have hab := ahd_bhd_len r
  obtain ⟨Q, hQ⟩ : ∃ Q, Q = str (bhd r) := ⟨_, rfl⟩
  have hQc : codes Q = bhd r := by rw [hQ]; exact codes_str (fun c hc => hrlt c (bhd_sub _ c hc))
  have hQs : Q.size = (bhd r).length := by rw [hQ]; exact str_size _
  have hQb : Q.size ≤ 1000 := by omega
  have hQp : 0 < Q.size := by rw [hQs]; exact List.length_pos_iff.2 hb
  obtain ⟨hq1, hq2, hq3, hq4⟩ := str_ne hQp
  obtain ⟨P, hP⟩ : ∃ P, P = str (ahd r) := ⟨_, rfl⟩
  have HSC := Lib.hid hSc
  have HSL := Lib.hid hSs
  have HD := Lib.hid hd
  have HQC := Lib.hid hQc
  have HQ := Lib.hid hQ
  have HB := Lib.hid hb
  have HP := Lib.hid hP
  have HT := Lib.hid ht
  clear hSc hSs hd hab hrlt hrl hlt hll hL hr hx0 hQc hQs hQ hb hP ht
  go_enter Tryz.func7, Tryz.ntmps7
  go_wp2_with fail
  generalize hW : World.alloc w _ = W0
  have E0 : St w W0 [] [(w.heap.size, .bool false, .slice none 0 0, .int .i64 0)] := by rw [← hW]; exact (St.start w (l := []) (fun q hq => absurd hq List.not_mem_nil)).lay rfl
  have E := Lib.hid E0
  clear hW E0
  go_loop [5, 6, 36] (fun pv qv iv => pv = .string S ∧ qv = .string ⟨#[]⟩ ∧ ∃ j : Nat, j ≤ S.size ∧ iv = .int .i64 j ∧ ahd r = r.take j ++ ahd (r.drop j) ∧ bhd r = bhd (r.drop j) ∧ dotB r = dotB (r.drop j)) (fun _ _ iv => S.size - (intOf iv).toNat)
  case atStart => exact ⟨rfl, rfl, 0, Nat.zero_le _, rfl, rfl, rfl, rfl⟩
  case round =>
    obtain ⟨rfl, rfl, j, hj, rfl, ha, hb, hd⟩ := hrel
    have RA := Lib.hid ha
    have RB := Lib.hid hb
    have RD := Lib.hid hd
    clear ha hb hd
    rcases Nat.lt_or_ge j S.size with hlt | hge
    · have HX : Hid (r.drop j = (S[j]'hlt).toNat :: r.drop (j + 1)) := (by show _ = _; have e := codes_drop S j hlt; rw [HSC.out] at e; exact e)
      have HTK : Hid (r.take (j + 1) = r.take j ++ [(S[j]'hlt).toNat]) := (by show _ = _; have e := codes_take S j hlt; rw [HSC.out] at e; exact e)
      obtain ⟨x, hx⟩ : ∃ x, x = (S[j]'hlt).toNat := ⟨_, rfl⟩
      rw [← hx] at HX HTK
      by_cases kx : x = 46
      · have c1 : (((S[j]'hlt).toNat : Int) == 46) = true := by rw [← hx, kx]; rfl
        have eP : S.extract 0 j = P := by rw [extract_to, HSC.out, HP.out, RA.out, HX.out, kx, ahd_cons_eq, List.append_nil]
        have eQ : S.extract (j + 1) S.size = Q := by rw [extract_from S (j + 1) _ rfl, HSC.out, HQ.out, RB.out, HX.out, kx, bhd_cons_eq]
        have j1 : j ≤ S.size := by omega
        have j2 : j + 1 ≤ S.size := by omega
        clear hx kx HX HTK RA RB RD
        go_wp2_with fail
        go_quiet (fail)
        rename_i nq
        replace E := Lib.hid (St.step (w' := World.drewN W0 nq) E.out Below.of_quiet)
        generalize World.drewN W0 nq = W1 at E ⊢
        go_wp2_with fail
        go_loop [56] (fun iv => ∃ k : Nat, k ≤ Q.size ∧ iv = .int .i64 k ∧ dgB (bhd r) = dgB ((bhd r).drop k)) (fun iv => Q.size - (intOf iv).toNat)
        case atStart => exact ⟨0, Nat.zero_le _, rfl, rfl⟩
        case round =>
          obtain ⟨k, hk, rfl, hdk⟩ := hrel
          have RK := Lib.hid hdk
          clear hdk
          rcases Nat.lt_or_ge k Q.size with hkl | hkg
          · have HX : Hid ((bhd r).drop k = (Q[k]'hkl).toNat :: (bhd r).drop (k + 1)) := (by show _ = _; have e := codes_drop Q k hkl; rw [HQC.out] at e; exact e)
            obtain ⟨x, hx⟩ : ∃ x, x = (Q[k]'hkl).toNat := ⟨_, rfl⟩
            rw [← hx] at HX
            by_cases kx : 48 ≤ x ∧ x ≤ 57
            · have CD := Lib.hid (refDigit_yes (v := ((Q[k]'hkl).toNat : Int)) W1 (by rw [← hx]; omega) (by rw [← hx]; omega))
              have N1 : Hid (dgB (bhd r) = dgB ((bhd r).drop (k + 1))) := by show _ = _; rw [RK.out, HX.out, dgB_cons_yes kx]
              clear hx kx HX RK
              go_wp2_with fail
              refine CD.out.mono ?_; rintro e w2 ⟨rfl, rfl⟩
              clear CD
              go_wp2_with fail
              go_round
              case rel => exact ⟨k + 1, by omega, by go_num, N1.out⟩
              case measure => simp [intOf]; omega
            · have CD := Lib.hid (refDigit_no (v := ((Q[k]'hkl).toNat : Int)) W1 (by rw [← hx]; omega))
              clear hx kx HX RK
              go_wp2_with fail
              refine CD.out.mono ?_; rintro e w2 ⟨rfl, rfl⟩
              clear CD
              obtain ⟨r0, r1, r2, rf0, rf1, rf2, rlt⟩ := St.at_ (x0 := .bool false) (x1 := .slice none 0 0) (x2 := .int .i64 0) (g := w.heap.size) E (by simp)
              go_wp2_with fail
              have EF := Lib.hid (St.store E.out (g := w.heap.size) (x0 := .bool false) (x1 := .slice none 0 0) (x2 := .int .i64 0) (by simp) (noLimb_bool _) (noLimb_slice _ _ _) (noLimb_int _) [] (fun q hq => by cases hq) (.bool false) (.slice none 0 0) (.int .i64 0))
              obtain ⟨e0, e1, e2, _, _, _, _⟩ := St.at_ (x0 := .bool false) (x1 := .slice none 0 0) (x2 := .int .i64 0) (g := w.heap.size) EF (by simp)
              exact bodyPost_ret (v := .tuple #[.agg #[.bool false, .slice none 0 0, .int .i64 0], .int .i64 3]) (by simp [results, Tryz.results7, go_sem, e0, e1, e2]) rfl ⟨rfl, EF.out.bel⟩
          · exact absurd (HT.out.symm.trans (RK.out.trans (show dgB ((bhd r).drop k) = true by rw [List.drop_of_length_le (by have e := codes_len Q; rw [HQC.out] at e; rw [e]; exact hkg)]; rfl))) (by decide)
      · have c1 : (((S[j]'hlt).toNat : Int) == 46) = false := by rw [← hx, beq_eq_false_iff_ne]; omega
        have N1 : Hid (ahd r = r.take (j + 1) ++ ahd (r.drop (j + 1))) := by show _ = _; rw [RA.out, HX.out, ahd_cons_ne _ kx, HTK.out, List.append_assoc]; rfl
        have N2 : Hid (bhd r = bhd (r.drop (j + 1))) := by show _ = _; rw [RB.out, HX.out, bhd_cons_ne _ kx]
        have N3 : Hid (dotB r = dotB (r.drop (j + 1))) := by show _ = _; rw [RD.out, HX.out, dotB_cons_ne kx]
        clear hx kx HX HTK RA RB RD
        go_wp2_with fail
        go_round
        case rel => exact ⟨rfl, rfl, j + 1, by omega, by go_num, N1.out, N2.out, N3.out⟩
        case measure => simp [intOf]; omega
    · obtain rfl : j = S.size := by omega
      exact absurd (HD.out.symm.trans (RD.out.trans (show dotB (r.drop S.size) = false by rw [List.drop_of_length_le (by rw [HSL.out]; exact Nat.le_refl _)]; rfl))) (by decide)

set_option maxRecDepth 100000 in
set_option maxHeartbeats 4000000 in
theorem rr_ung_md (s : ByteArray) (r : List Nat) (w : World) (hs : s.size ≤ 1000) (hL : codes s = 45 :: r) (hr : r ≠ []) (hd : dotB r = true) (hb : bhd r ≠ []) (ht : dgB (bhd r) = true) (hg : ahd r = [] ∨ gst (ahd r) 0 false = false) :
    Calls Tryz.prog 7 #[.string s] w (RetErr w 3) := by
  have hlt : ∀ c ∈ codes s, c < 256 := codes_lt s
  have hll := codes_len s
  have hs0 : 0 < s.size := by rw [← hll, hL]; simp
  have hrlt : ∀ c ∈ r, c < 256 := fun c hc => hlt c (by rw [hL]; exact List.mem_cons_of_mem _ hc)
  have hx0 : (s[0]'hs0).toNat = 45 := by
    have e := codes_head s hs0
    rw [hL] at e
    injection e with e _
    exact e.symm
  have b1 : (((s[0]'hs0).toNat : Int) == 45) = true := by rw [hx0]; rfl
  obtain ⟨he1, he2, he3, he4⟩ := str_ne hs0
  have hrl : r.length ≤ 1000 := by rw [hL] at hll; simp at hll; omega
  have hext : s.extract 1 s.size = str r := by rw [extract_from s 1 _ rfl, hL]; rfl
  have hSp := str_pos hr
  have hSc : codes (str r) = r := codes_str hrlt
  have hSs : (str r).size = r.length := str_size r
  obtain ⟨S, hS⟩ : ∃ S, S = str r := ⟨_, rfl⟩
  rw [← hS] at hSp hSc hSs hext
  clear hS
  obtain ⟨hf1, hf2, hf3, hf4⟩ := str_ne hSp
  have hSb : S.size ≤ 1000 := by omega
  have hab := ahd_bhd_len r
  obtain ⟨Q, hQ⟩ : ∃ Q, Q = str (bhd r) := ⟨_, rfl⟩
  have hQc : codes Q = bhd r := by rw [hQ]; exact codes_str (fun c hc => hrlt c (bhd_sub _ c hc))
  have hQs : Q.size = (bhd r).length := by rw [hQ]; exact str_size _
  have hQb : Q.size ≤ 1000 := by omega
  have hQp : 0 < Q.size := by rw [hQs]; exact List.length_pos_iff.2 hb
  obtain ⟨hq1, hq2, hq3, hq4⟩ := str_ne hQp
  obtain ⟨P, hP⟩ : ∃ P, P = str (ahd r) := ⟨_, rfl⟩
  have CG : Hid (∀ w', Calls Tryz.prog 25 #[.string P] w' (RetNo w')) := fun w' => by
    rw [hP]; exact groups_no (fun c hc => hrlt c (ahd_sub _ c hc)) (by omega) hg w'
  clear hg
  have HSC := Lib.hid hSc
  have HSL := Lib.hid hSs
  have HD := Lib.hid hd
  have HQC := Lib.hid hQc
  have HQ := Lib.hid hQ
  have HB := Lib.hid hb
  have HP := Lib.hid hP
  have HT := Lib.hid ht
  clear hSc hSs hd hab hrlt hrl hlt hll hL hr hx0 hQc hQs hQ hb hP ht
  go_enter Tryz.func7, Tryz.ntmps7
  go_wp2_with fail
  generalize hW : World.alloc w _ = W0
  have E0 : St w W0 [] [(w.heap.size, .bool false, .slice none 0 0, .int .i64 0)] := by rw [← hW]; exact (St.start w (l := []) (fun q hq => absurd hq List.not_mem_nil)).lay rfl
  have E := Lib.hid E0
  clear hW E0
  go_loop [5, 6, 36] (fun pv qv iv => pv = .string S ∧ qv = .string ⟨#[]⟩ ∧ ∃ j : Nat, j ≤ S.size ∧ iv = .int .i64 j ∧ ahd r = r.take j ++ ahd (r.drop j) ∧ bhd r = bhd (r.drop j) ∧ dotB r = dotB (r.drop j)) (fun _ _ iv => S.size - (intOf iv).toNat)
  case atStart => exact ⟨rfl, rfl, 0, Nat.zero_le _, rfl, rfl, rfl, rfl⟩
  case round =>
    obtain ⟨rfl, rfl, j, hj, rfl, ha, hb, hd⟩ := hrel
    have RA := Lib.hid ha
    have RB := Lib.hid hb
    have RD := Lib.hid hd
    clear ha hb hd
    rcases Nat.lt_or_ge j S.size with hlt | hge
    · have HX : Hid (r.drop j = (S[j]'hlt).toNat :: r.drop (j + 1)) := (by show _ = _; have e := codes_drop S j hlt; rw [HSC.out] at e; exact e)
      have HTK : Hid (r.take (j + 1) = r.take j ++ [(S[j]'hlt).toNat]) := (by show _ = _; have e := codes_take S j hlt; rw [HSC.out] at e; exact e)
      obtain ⟨x, hx⟩ : ∃ x, x = (S[j]'hlt).toNat := ⟨_, rfl⟩
      rw [← hx] at HX HTK
      by_cases kx : x = 46
      · have c1 : (((S[j]'hlt).toNat : Int) == 46) = true := by rw [← hx, kx]; rfl
        have eP : S.extract 0 j = P := by rw [extract_to, HSC.out, HP.out, RA.out, HX.out, kx, ahd_cons_eq, List.append_nil]
        have eQ : S.extract (j + 1) S.size = Q := by rw [extract_from S (j + 1) _ rfl, HSC.out, HQ.out, RB.out, HX.out, kx, bhd_cons_eq]
        have j1 : j ≤ S.size := by omega
        have j2 : j + 1 ≤ S.size := by omega
        clear hx kx HX HTK RA RB RD
        go_wp2_with fail
        go_quiet (fail)
        rename_i nq
        replace E := Lib.hid (St.step (w' := World.drewN W0 nq) E.out Below.of_quiet)
        generalize World.drewN W0 nq = W1 at E ⊢
        go_wp2_with fail
        go_loop [56] (fun iv => ∃ k : Nat, k ≤ Q.size ∧ iv = .int .i64 k ∧ dgB (bhd r) = dgB ((bhd r).drop k)) (fun iv => Q.size - (intOf iv).toNat)
        case atStart => exact ⟨0, Nat.zero_le _, rfl, rfl⟩
        case round =>
          obtain ⟨k, hk, rfl, hdk⟩ := hrel
          have RK := Lib.hid hdk
          clear hdk
          rcases Nat.lt_or_ge k Q.size with hkl | hkg
          · have HX : Hid ((bhd r).drop k = (Q[k]'hkl).toNat :: (bhd r).drop (k + 1)) := (by show _ = _; have e := codes_drop Q k hkl; rw [HQC.out] at e; exact e)
            obtain ⟨x, hx⟩ : ∃ x, x = (Q[k]'hkl).toNat := ⟨_, rfl⟩
            rw [← hx] at HX
            by_cases kx : 48 ≤ x ∧ x ≤ 57
            · have CD := Lib.hid (refDigit_yes (v := ((Q[k]'hkl).toNat : Int)) W1 (by rw [← hx]; omega) (by rw [← hx]; omega))
              have N1 : Hid (dgB (bhd r) = dgB ((bhd r).drop (k + 1))) := by show _ = _; rw [RK.out, HX.out, dgB_cons_yes kx]
              clear hx kx HX RK
              go_wp2_with fail
              refine CD.out.mono ?_; rintro e w2 ⟨rfl, rfl⟩
              clear CD
              go_wp2_with fail
              go_round
              case rel => exact ⟨k + 1, by omega, by go_num, N1.out⟩
              case measure => simp [intOf]; omega
            · exact absurd (HT.out.symm.trans (RK.out.trans (show dgB ((bhd r).drop k) = false by rw [HX.out, dgB_cons_no kx]))) (by decide)
          · obtain rfl : k = Q.size := by omega
            clear RK
            go_wp2_with fail
            refine (CG.out _).mono ?_; rintro e w3 ⟨SX, rfl, hb1⟩; replace E := Lib.hid (St.step E.out hb1); clear hb1
            obtain ⟨r0, r1, r2, rf0, rf1, rf2, rlt⟩ := St.at_ (x0 := .bool false) (x1 := .slice none 0 0) (x2 := .int .i64 0) (g := w.heap.size) E (by simp)
            go_wp2_with fail
            have EF := Lib.hid (St.store E.out (g := w.heap.size) (x0 := .bool false) (x1 := .slice none 0 0) (x2 := .int .i64 0) (by simp) (noLimb_bool _) (noLimb_slice _ _ _) (noLimb_int _) [] (fun q hq => by cases hq) (.bool false) (.slice none 0 0) (.int .i64 0))
            obtain ⟨e0, e1, e2, _, _, _, _⟩ := St.at_ (x0 := .bool false) (x1 := .slice none 0 0) (x2 := .int .i64 0) (g := w.heap.size) EF (by simp)
            exact bodyPost_ret (v := .tuple #[.agg #[.bool false, .slice none 0 0, .int .i64 0], .int .i64 3]) (by simp [results, Tryz.results7, go_sem, e0, e1, e2]) rfl ⟨rfl, EF.out.bel⟩
      · have c1 : (((S[j]'hlt).toNat : Int) == 46) = false := by rw [← hx, beq_eq_false_iff_ne]; omega
        have N1 : Hid (ahd r = r.take (j + 1) ++ ahd (r.drop (j + 1))) := by show _ = _; rw [RA.out, HX.out, ahd_cons_ne _ kx, HTK.out, List.append_assoc]; rfl
        have N2 : Hid (bhd r = bhd (r.drop (j + 1))) := by show _ = _; rw [RB.out, HX.out, bhd_cons_ne _ kx]
        have N3 : Hid (dotB r = dotB (r.drop (j + 1))) := by show _ = _; rw [RD.out, HX.out, dotB_cons_ne kx]
        clear hx kx HX HTK RA RB RD
        go_wp2_with fail
        go_round
        case rel => exact ⟨rfl, rfl, j + 1, by omega, by go_num, N1.out, N2.out, N3.out⟩
        case measure => simp [intOf]; omega
    · obtain rfl : j = S.size := by omega
      exact absurd (HD.out.symm.trans (RD.out.trans (show dotB (r.drop S.size) = false by rw [List.drop_of_length_le (by rw [HSL.out]; exact Nat.le_refl _)]; rfl))) (by decide)

set_option maxRecDepth 100000 in
set_option maxHeartbeats 4000000 in
theorem rr_ok_md (s : ByteArray) (r : List Nat) (w : World) (hs : s.size ≤ 1000) (hL : codes s = 45 :: r) (hr : r ≠ []) (hd : dotB r = true) (hb : bhd r ≠ []) (ht : dgB (bhd r) = true) (ha : ahd r ≠ []) (hg : gst (ahd r) 0 false = true) (hdg : digs (digsOf r)) :
    Calls Tryz.prog 7 #[.string s] w (RetDecE w (sgn true (pv (digsOf r))) (bhd r).length) := by
  have hlt : ∀ c ∈ codes s, c < 256 := codes_lt s
  have hll := codes_len s
  have hs0 : 0 < s.size := by rw [← hll, hL]; simp
  have hrlt : ∀ c ∈ r, c < 256 := fun c hc => hlt c (by rw [hL]; exact List.mem_cons_of_mem _ hc)
  have hx0 : (s[0]'hs0).toNat = 45 := by
    have e := codes_head s hs0
    rw [hL] at e
    injection e with e _
    exact e.symm
  have b1 : (((s[0]'hs0).toNat : Int) == 45) = true := by rw [hx0]; rfl
  obtain ⟨he1, he2, he3, he4⟩ := str_ne hs0
  have hrl : r.length ≤ 1000 := by rw [hL] at hll; simp at hll; omega
  have hext : s.extract 1 s.size = str r := by rw [extract_from s 1 _ rfl, hL]; rfl
  have hSp := str_pos hr
  have hSc : codes (str r) = r := codes_str hrlt
  have hSs : (str r).size = r.length := str_size r
  obtain ⟨S, hS⟩ : ∃ S, S = str r := ⟨_, rfl⟩
  rw [← hS] at hSp hSc hSs hext
  clear hS
  obtain ⟨hf1, hf2, hf3, hf4⟩ := str_ne hSp
  have hSb : S.size ≤ 1000 := by omega
  have hab := ahd_bhd_len r
  obtain ⟨Q, hQ⟩ : ∃ Q, Q = str (bhd r) := ⟨_, rfl⟩
  have hQc : codes Q = bhd r := by rw [hQ]; exact codes_str (fun c hc => hrlt c (bhd_sub _ c hc))
  have hQs : Q.size = (bhd r).length := by rw [hQ]; exact str_size _
  have hQb : Q.size ≤ 1000 := by omega
  have hQp : 0 < Q.size := by rw [hQs]; exact List.length_pos_iff.2 hb
  obtain ⟨hq1, hq2, hq3, hq4⟩ := str_ne hQp
  obtain ⟨P, hP⟩ : ∃ P, P = str (ahd r) := ⟨_, rfl⟩
  have CG : Hid (∀ w', Calls Tryz.prog 25 #[.string P] w' (RetVal w' (.tuple #[.string (str (nocom (ahd r))), .bool true]))) := fun w' => by
    rw [hP]; exact groups_yes (fun c hc => hrlt c (ahd_sub _ c hc)) (by omega) ha hg w'
  have hdl := digsOf_len r
  have hnl := nocom_len (ahd r)
  have hnc := codes_str (l := nocom (ahd r)) (fun c hc => hrlt c (ahd_sub _ c (nocom_sub _ c hc)))
  have hne : nocom (ahd r) ≠ [] := by
    have e := gst_ungB ha
    rw [hg] at e
    exact nocom_ne ha (Bool.and_eq_true_iff.1 e.symm).1
  have hadd : ∀ w', (Op.stringOp .add (str (nocom (ahd r))) Q).run Tryz.prog w' = .ok (.string (str (digsOf r))) w' := fun w' => str_add7 (by rw [hnc, hQc]; unfold digsOf; rfl) (by rw [str_size]; omega) w'
  have hVc : codes (str (digsOf r)) = digsOf r := codes_str (app_lt (fun c hc => hrlt c (ahd_sub _ c (nocom_sub _ c hc))) (fun c hc => hrlt c (bhd_sub _ c hc)))
  have hVs : (str (digsOf r)).size = (digsOf r).length := str_size _
  have hVp : 0 < (str (digsOf r)).size := by
    rw [hVs]; unfold digsOf; rw [List.length_append]
    have := List.length_pos_iff.2 hne
    omega
  have CP : Hid (∀ w', Calls Tryz.prog 26 #[.string (str (digsOf r))] w' (RetParse w' (digsOf r))) := fun w' => by
    have e := refParse_any (str (digsOf r)) w' hVp (by omega)
    rw [hVc] at e; exact e
  obtain ⟨V, hV⟩ : ∃ V, V = str (digsOf r) := ⟨_, rfl⟩
  obtain ⟨U, hU⟩ : ∃ U, U = str (nocom (ahd r)) := ⟨_, rfl⟩
  rw [← hV, ← hU] at hadd
  rw [← hV] at CP
  rw [← hU] at CG
  have HG := Lib.hid hdg
  have HNUM : Hid ((sgn true (pv (digsOf r))).natAbs = pv (digsOf r)) := abs_sgn _ _
  clear hV hU hVp hVs hVc hdl hne hnc hnl hg hdg ha
  have HBL : Hid (Q.size = (bhd r).length) := hQs
  have HSC := Lib.hid hSc
  have HSL := Lib.hid hSs
  have HD := Lib.hid hd
  have HQC := Lib.hid hQc
  have HQ := Lib.hid hQ
  have HB := Lib.hid hb
  have HP := Lib.hid hP
  have HT := Lib.hid ht
  clear hSc hSs hd hab hrlt hrl hlt hll hL hr hx0 hQc hQs hQ hb hP ht
  go_enter Tryz.func7, Tryz.ntmps7
  go_wp2_with fail
  generalize hW : World.alloc w _ = W0
  have E0 : St w W0 [] [(w.heap.size, .bool false, .slice none 0 0, .int .i64 0)] := by rw [← hW]; exact (St.start w (l := []) (fun q hq => absurd hq List.not_mem_nil)).lay rfl
  have E := Lib.hid E0
  clear hW E0
  go_loop [5, 6, 36] (fun pv qv iv => pv = .string S ∧ qv = .string ⟨#[]⟩ ∧ ∃ j : Nat, j ≤ S.size ∧ iv = .int .i64 j ∧ ahd r = r.take j ++ ahd (r.drop j) ∧ bhd r = bhd (r.drop j) ∧ dotB r = dotB (r.drop j)) (fun _ _ iv => S.size - (intOf iv).toNat)
  case atStart => exact ⟨rfl, rfl, 0, Nat.zero_le _, rfl, rfl, rfl, rfl⟩
  case round =>
    obtain ⟨rfl, rfl, j, hj, rfl, ha, hb, hd⟩ := hrel
    have RA := Lib.hid ha
    have RB := Lib.hid hb
    have RD := Lib.hid hd
    clear ha hb hd
    rcases Nat.lt_or_ge j S.size with hlt | hge
    · have HX : Hid (r.drop j = (S[j]'hlt).toNat :: r.drop (j + 1)) := (by show _ = _; have e := codes_drop S j hlt; rw [HSC.out] at e; exact e)
      have HTK : Hid (r.take (j + 1) = r.take j ++ [(S[j]'hlt).toNat]) := (by show _ = _; have e := codes_take S j hlt; rw [HSC.out] at e; exact e)
      obtain ⟨x, hx⟩ : ∃ x, x = (S[j]'hlt).toNat := ⟨_, rfl⟩
      rw [← hx] at HX HTK
      by_cases kx : x = 46
      · have c1 : (((S[j]'hlt).toNat : Int) == 46) = true := by rw [← hx, kx]; rfl
        have eP : S.extract 0 j = P := by rw [extract_to, HSC.out, HP.out, RA.out, HX.out, kx, ahd_cons_eq, List.append_nil]
        have eQ : S.extract (j + 1) S.size = Q := by rw [extract_from S (j + 1) _ rfl, HSC.out, HQ.out, RB.out, HX.out, kx, bhd_cons_eq]
        have j1 : j ≤ S.size := by omega
        have j2 : j + 1 ≤ S.size := by omega
        clear hx kx HX HTK RA RB RD
        go_wp2_with fail
        go_quiet (fail)
        rename_i nq
        replace E := Lib.hid (St.step (w' := World.drewN W0 nq) E.out Below.of_quiet)
        generalize World.drewN W0 nq = W1 at E ⊢
        go_wp2_with fail
        go_loop [56] (fun iv => ∃ k : Nat, k ≤ Q.size ∧ iv = .int .i64 k ∧ dgB (bhd r) = dgB ((bhd r).drop k)) (fun iv => Q.size - (intOf iv).toNat)
        case atStart => exact ⟨0, Nat.zero_le _, rfl, rfl⟩
        case round =>
          obtain ⟨k, hk, rfl, hdk⟩ := hrel
          have RK := Lib.hid hdk
          clear hdk
          rcases Nat.lt_or_ge k Q.size with hkl | hkg
          · have HX : Hid ((bhd r).drop k = (Q[k]'hkl).toNat :: (bhd r).drop (k + 1)) := (by show _ = _; have e := codes_drop Q k hkl; rw [HQC.out] at e; exact e)
            obtain ⟨x, hx⟩ : ∃ x, x = (Q[k]'hkl).toNat := ⟨_, rfl⟩
            rw [← hx] at HX
            by_cases kx : 48 ≤ x ∧ x ≤ 57
            · have CD := Lib.hid (refDigit_yes (v := ((Q[k]'hkl).toNat : Int)) W1 (by rw [← hx]; omega) (by rw [← hx]; omega))
              have N1 : Hid (dgB (bhd r) = dgB ((bhd r).drop (k + 1))) := by show _ = _; rw [RK.out, HX.out, dgB_cons_yes kx]
              clear hx kx HX RK
              go_wp2_with fail
              refine CD.out.mono ?_; rintro e w2 ⟨rfl, rfl⟩
              clear CD
              go_wp2_with fail
              go_round
              case rel => exact ⟨k + 1, by omega, by go_num, N1.out⟩
              case measure => simp [intOf]; omega
            · exact absurd (HT.out.symm.trans (RK.out.trans (show dgB ((bhd r).drop k) = false by rw [HX.out, dgB_cons_no kx]))) (by decide)
          · obtain rfl : k = Q.size := by omega
            clear RK
            go_wp2_with fail
            refine (CG.out _).mono ?_; rintro e w3 ⟨rfl, hb1⟩; replace E := Lib.hid (St.step E.out hb1); clear hb1
            go_wp2_with fail
            clear hadd
            refine (CP.out _).mono ?_
            rintro e w4 (⟨-, A4, n4, c4, rfl, h4, hb1⟩ | ⟨hd, -⟩)
            rotate_left
            · exact absurd HG.out hd
            replace E := Lib.hid (St.push E.out hb1 h4)
            have HPO := Lib.hid (num_pos h4)
            clear hb1 h4
            obtain ⟨r0, r1, r2, rf0, rf1, rf2, rlt⟩ := St.at_ (x0 := .bool false) (x1 := .slice none 0 0) (x2 := .int .i64 0) (g := w.heap.size) E (by simp)
            go_wp2_with fail
            have EF := Lib.hid (St.store E.out (g := w.heap.size) (x0 := .bool false) (x1 := .slice none 0 0) (x2 := .int .i64 0) (by simp) (noLimb_bool _) (noLimb_slice _ _ _) (noLimb_int _) [] (fun q hq => by cases hq) (.bool (decide (0 < n4))) (.slice A4 n4 c4) (.int .i64 (Q.size : Int)))
            obtain ⟨e0, e1, e2, _, _, _, _⟩ := St.at_ (x0 := .bool (decide (0 < n4))) (x1 := .slice A4 n4 c4) (x2 := .int .i64 (Q.size : Int)) (g := w.heap.size) EF (by simp)
            exact bodyPost_ret (v := .tuple #[.agg #[.bool (decide (0 < n4)), .slice A4 n4 c4, .int .i64 (Q.size : Int)], .int .i64 0]) (by simp [results, Tryz.results7, go_sem, e0, e1, e2]) rfl ⟨A4, n4, c4, by rw [ng_sgn, ← HBL.out, HPO.out]; simp, by rw [HNUM.out]; exact St.got EF (by simp), EF.out.bel⟩
      · have c1 : (((S[j]'hlt).toNat : Int) == 46) = false := by rw [← hx, beq_eq_false_iff_ne]; omega
        have N1 : Hid (ahd r = r.take (j + 1) ++ ahd (r.drop (j + 1))) := by show _ = _; rw [RA.out, HX.out, ahd_cons_ne _ kx, HTK.out, List.append_assoc]; rfl
        have N2 : Hid (bhd r = bhd (r.drop (j + 1))) := by show _ = _; rw [RB.out, HX.out, bhd_cons_ne _ kx]
        have N3 : Hid (dotB r = dotB (r.drop (j + 1))) := by show _ = _; rw [RD.out, HX.out, dotB_cons_ne kx]
        clear hx kx HX HTK RA RB RD
        go_wp2_with fail
        go_round
        case rel => exact ⟨rfl, rfl, j + 1, by omega, by go_num, N1.out, N2.out, N3.out⟩
        case measure => simp [intOf]; omega
    · obtain rfl : j = S.size := by omega
      exact absurd (HD.out.symm.trans (RD.out.trans (show dotB (r.drop S.size) = false by rw [List.drop_of_length_le (by rw [HSL.out]; exact Nat.le_refl _)]; rfl))) (by decide)

set_option maxRecDepth 100000 in
set_option maxHeartbeats 4000000 in
theorem rr_ung_mw (s : ByteArray) (r : List Nat) (w : World) (hs : s.size ≤ 1000) (hL : codes s = 45 :: r) (hr : r ≠ []) (hd : dotB r = false) (hg : ahd r = [] ∨ gst (ahd r) 0 false = false) :
    Calls Tryz.prog 7 #[.string s] w (RetErr w 3) := by
  have hlt : ∀ c ∈ codes s, c < 256 := codes_lt s
  have hll := codes_len s
  have hs0 : 0 < s.size := by rw [← hll, hL]; simp
  have hrlt : ∀ c ∈ r, c < 256 := fun c hc => hlt c (by rw [hL]; exact List.mem_cons_of_mem _ hc)
  have hx0 : (s[0]'hs0).toNat = 45 := by
    have e := codes_head s hs0
    rw [hL] at e
    injection e with e _
    exact e.symm
  have b1 : (((s[0]'hs0).toNat : Int) == 45) = true := by rw [hx0]; rfl
  obtain ⟨he1, he2, he3, he4⟩ := str_ne hs0
  have hrl : r.length ≤ 1000 := by rw [hL] at hll; simp at hll; omega
  have hext : s.extract 1 s.size = str r := by rw [extract_from s 1 _ rfl, hL]; rfl
  have hSp := str_pos hr
  have hSc : codes (str r) = r := codes_str hrlt
  have hSs : (str r).size = r.length := str_size r
  obtain ⟨S, hS⟩ : ∃ S, S = str r := ⟨_, rfl⟩
  rw [← hS] at hSp hSc hSs hext
  clear hS
  obtain ⟨hf1, hf2, hf3, hf4⟩ := str_ne hSp
  have hSb : S.size ≤ 1000 := by omega
  have hab := ahd_bhd_len r
  have hah := ahd_nodot hd
  have hbh := bhd_nil hd
  have hSr : S = str r := by rw [← hSc, str_codes]
  have CG : Hid (∀ w', Calls Tryz.prog 25 #[.string S] w' (RetNo w')) := fun w' => by
    have e := groups_no (l := ahd r) (fun c hc => hrlt c (ahd_sub _ c hc)) (by omega) hg w'
    rw [hah] at e; rw [hSr]; exact e
  clear hg hah hbh hSr
  have HSC := Lib.hid hSc
  have HSL := Lib.hid hSs
  have HD := Lib.hid hd
  clear hSc hSs hd hab hrlt hrl hlt hll hL hr hx0
  go_enter Tryz.func7, Tryz.ntmps7
  go_wp2_with fail
  generalize hW : World.alloc w _ = W0
  have E0 : St w W0 [] [(w.heap.size, .bool false, .slice none 0 0, .int .i64 0)] := by rw [← hW]; exact (St.start w (l := []) (fun q hq => absurd hq List.not_mem_nil)).lay rfl
  have E := Lib.hid E0
  clear hW E0
  go_loop [5, 6, 36] (fun pv qv iv => pv = .string S ∧ qv = .string ⟨#[]⟩ ∧ ∃ j : Nat, j ≤ S.size ∧ iv = .int .i64 j ∧ ahd r = r.take j ++ ahd (r.drop j) ∧ bhd r = bhd (r.drop j) ∧ dotB r = dotB (r.drop j)) (fun _ _ iv => S.size - (intOf iv).toNat)
  case atStart => exact ⟨rfl, rfl, 0, Nat.zero_le _, rfl, rfl, rfl, rfl⟩
  case round =>
    obtain ⟨rfl, rfl, j, hj, rfl, ha, hb, hd⟩ := hrel
    have RA := Lib.hid ha
    have RB := Lib.hid hb
    have RD := Lib.hid hd
    clear ha hb hd
    rcases Nat.lt_or_ge j S.size with hlt | hge
    · have HX : Hid (r.drop j = (S[j]'hlt).toNat :: r.drop (j + 1)) := (by show _ = _; have e := codes_drop S j hlt; rw [HSC.out] at e; exact e)
      have HTK : Hid (r.take (j + 1) = r.take j ++ [(S[j]'hlt).toNat]) := (by show _ = _; have e := codes_take S j hlt; rw [HSC.out] at e; exact e)
      obtain ⟨x, hx⟩ : ∃ x, x = (S[j]'hlt).toNat := ⟨_, rfl⟩
      rw [← hx] at HX HTK
      by_cases kx : x = 46
      · exact absurd (HD.out.symm.trans (RD.out.trans (show dotB (r.drop j) = true by rw [HX.out, kx]; exact dotB_cons_eq))) (by decide)
      · have c1 : (((S[j]'hlt).toNat : Int) == 46) = false := by rw [← hx, beq_eq_false_iff_ne]; omega
        have N1 : Hid (ahd r = r.take (j + 1) ++ ahd (r.drop (j + 1))) := by show _ = _; rw [RA.out, HX.out, ahd_cons_ne _ kx, HTK.out, List.append_assoc]; rfl
        have N2 : Hid (bhd r = bhd (r.drop (j + 1))) := by show _ = _; rw [RB.out, HX.out, bhd_cons_ne _ kx]
        have N3 : Hid (dotB r = dotB (r.drop (j + 1))) := by show _ = _; rw [RD.out, HX.out, dotB_cons_ne kx]
        clear hx kx HX HTK RA RB RD
        go_wp2_with fail
        go_round
        case rel => exact ⟨rfl, rfl, j + 1, by omega, by go_num, N1.out, N2.out, N3.out⟩
        case measure => simp [intOf]; omega
    · obtain rfl : j = S.size := by omega
      clear RA RB RD
      have hz0 : (ByteArray.mk #[]).size = 0 := rfl
      go_wp2_with fail
      go_loop [56] (fun iv => iv = .int .i64 0) (fun _ => 0)
      case atStart => exact rfl
      case round =>
        obtain rfl := hrel
        go_wp2_with fail
        refine (CG.out _).mono ?_; rintro e w3 ⟨SX, rfl, hb1⟩; replace E := Lib.hid (St.step E.out hb1); clear hb1
        obtain ⟨r0, r1, r2, rf0, rf1, rf2, rlt⟩ := St.at_ (x0 := .bool false) (x1 := .slice none 0 0) (x2 := .int .i64 0) (g := w.heap.size) E (by simp)
        go_wp2_with fail
        have EF := Lib.hid (St.store E.out (g := w.heap.size) (x0 := .bool false) (x1 := .slice none 0 0) (x2 := .int .i64 0) (by simp) (noLimb_bool _) (noLimb_slice _ _ _) (noLimb_int _) [] (fun q hq => by cases hq) (.bool false) (.slice none 0 0) (.int .i64 0))
        obtain ⟨e0, e1, e2, _, _, _, _⟩ := St.at_ (x0 := .bool false) (x1 := .slice none 0 0) (x2 := .int .i64 0) (g := w.heap.size) EF (by simp)
        exact bodyPost_ret (v := .tuple #[.agg #[.bool false, .slice none 0 0, .int .i64 0], .int .i64 3]) (by simp [results, Tryz.results7, go_sem, e0, e1, e2]) rfl ⟨rfl, EF.out.bel⟩

set_option maxRecDepth 100000 in
set_option maxHeartbeats 4000000 in
theorem rr_ok_mw (s : ByteArray) (r : List Nat) (w : World) (hs : s.size ≤ 1000) (hL : codes s = 45 :: r) (hr : r ≠ []) (hd : dotB r = false) (ha : ahd r ≠ []) (hg : gst (ahd r) 0 false = true) (hdg : digs (digsOf r)) :
    Calls Tryz.prog 7 #[.string s] w (RetDecE w (sgn true (pv (digsOf r))) (bhd r).length) := by
  have hlt : ∀ c ∈ codes s, c < 256 := codes_lt s
  have hll := codes_len s
  have hs0 : 0 < s.size := by rw [← hll, hL]; simp
  have hrlt : ∀ c ∈ r, c < 256 := fun c hc => hlt c (by rw [hL]; exact List.mem_cons_of_mem _ hc)
  have hx0 : (s[0]'hs0).toNat = 45 := by
    have e := codes_head s hs0
    rw [hL] at e
    injection e with e _
    exact e.symm
  have b1 : (((s[0]'hs0).toNat : Int) == 45) = true := by rw [hx0]; rfl
  obtain ⟨he1, he2, he3, he4⟩ := str_ne hs0
  have hrl : r.length ≤ 1000 := by rw [hL] at hll; simp at hll; omega
  have hext : s.extract 1 s.size = str r := by rw [extract_from s 1 _ rfl, hL]; rfl
  have hSp := str_pos hr
  have hSc : codes (str r) = r := codes_str hrlt
  have hSs : (str r).size = r.length := str_size r
  obtain ⟨S, hS⟩ : ∃ S, S = str r := ⟨_, rfl⟩
  rw [← hS] at hSp hSc hSs hext
  clear hS
  obtain ⟨hf1, hf2, hf3, hf4⟩ := str_ne hSp
  have hSb : S.size ≤ 1000 := by omega
  have hab := ahd_bhd_len r
  have hah := ahd_nodot hd
  have hbh := bhd_nil hd
  have hSr : S = str r := by rw [← hSc, str_codes]
  have CG : Hid (∀ w', Calls Tryz.prog 25 #[.string S] w' (RetVal w' (.tuple #[.string (str (nocom (ahd r))), .bool true]))) := fun w' => by
    have e := groups_yes (l := ahd r) (fun c hc => hrlt c (ahd_sub _ c hc)) (by omega) ha hg w'
    rw [hah] at e; rw [hSr, hah]; exact e
  have hdl := digsOf_len r
  have hnl := nocom_len (ahd r)
  have hnc := codes_str (l := nocom (ahd r)) (fun c hc => hrlt c (ahd_sub _ c (nocom_sub _ c hc)))
  have hne : nocom (ahd r) ≠ [] := by
    have e := gst_ungB ha
    rw [hg] at e
    exact nocom_ne ha (Bool.and_eq_true_iff.1 e.symm).1
  have hadd : ∀ w', (Op.stringOp .add (str (nocom (ahd r))) ⟨#[]⟩).run Tryz.prog w' = .ok (.string (str (digsOf r))) w' := fun w' => str_add7 (by rw [hnc]; unfold digsOf; rw [hbh]; rfl) (by rw [str_size]; show _ + 0 ≤ _; omega) w'
  have hVc : codes (str (digsOf r)) = digsOf r := codes_str (app_lt (fun c hc => hrlt c (ahd_sub _ c (nocom_sub _ c hc))) (fun c hc => hrlt c (bhd_sub _ c hc)))
  have hVs : (str (digsOf r)).size = (digsOf r).length := str_size _
  have hVp : 0 < (str (digsOf r)).size := by
    rw [hVs]; unfold digsOf; rw [List.length_append]
    have := List.length_pos_iff.2 hne
    omega
  have CP : Hid (∀ w', Calls Tryz.prog 26 #[.string (str (digsOf r))] w' (RetParse w' (digsOf r))) := fun w' => by
    have e := refParse_any (str (digsOf r)) w' hVp (by omega)
    rw [hVc] at e; exact e
  obtain ⟨V, hV⟩ : ∃ V, V = str (digsOf r) := ⟨_, rfl⟩
  obtain ⟨U, hU⟩ : ∃ U, U = str (nocom (ahd r)) := ⟨_, rfl⟩
  rw [← hV, ← hU] at hadd
  rw [← hV] at CP
  rw [← hU] at CG
  have HG := Lib.hid hdg
  have HNUM : Hid ((sgn true (pv (digsOf r))).natAbs = pv (digsOf r)) := abs_sgn _ _
  clear hV hU hVp hVs hVc hdl hne hnc hnl hg hdg ha
  have HBL : Hid ((bhd r).length = 0) := (by show _ = _; rw [hbh]; rfl)
  clear hah hbh hSr
  have HSC := Lib.hid hSc
  have HSL := Lib.hid hSs
  have HD := Lib.hid hd
  clear hSc hSs hd hab hrlt hrl hlt hll hL hr hx0
  go_enter Tryz.func7, Tryz.ntmps7
  go_wp2_with fail
  generalize hW : World.alloc w _ = W0
  have E0 : St w W0 [] [(w.heap.size, .bool false, .slice none 0 0, .int .i64 0)] := by rw [← hW]; exact (St.start w (l := []) (fun q hq => absurd hq List.not_mem_nil)).lay rfl
  have E := Lib.hid E0
  clear hW E0
  go_loop [5, 6, 36] (fun pv qv iv => pv = .string S ∧ qv = .string ⟨#[]⟩ ∧ ∃ j : Nat, j ≤ S.size ∧ iv = .int .i64 j ∧ ahd r = r.take j ++ ahd (r.drop j) ∧ bhd r = bhd (r.drop j) ∧ dotB r = dotB (r.drop j)) (fun _ _ iv => S.size - (intOf iv).toNat)
  case atStart => exact ⟨rfl, rfl, 0, Nat.zero_le _, rfl, rfl, rfl, rfl⟩
  case round =>
    obtain ⟨rfl, rfl, j, hj, rfl, ha, hb, hd⟩ := hrel
    have RA := Lib.hid ha
    have RB := Lib.hid hb
    have RD := Lib.hid hd
    clear ha hb hd
    rcases Nat.lt_or_ge j S.size with hlt | hge
    · have HX : Hid (r.drop j = (S[j]'hlt).toNat :: r.drop (j + 1)) := (by show _ = _; have e := codes_drop S j hlt; rw [HSC.out] at e; exact e)
      have HTK : Hid (r.take (j + 1) = r.take j ++ [(S[j]'hlt).toNat]) := (by show _ = _; have e := codes_take S j hlt; rw [HSC.out] at e; exact e)
      obtain ⟨x, hx⟩ : ∃ x, x = (S[j]'hlt).toNat := ⟨_, rfl⟩
      rw [← hx] at HX HTK
      by_cases kx : x = 46
      · exact absurd (HD.out.symm.trans (RD.out.trans (show dotB (r.drop j) = true by rw [HX.out, kx]; exact dotB_cons_eq))) (by decide)
      · have c1 : (((S[j]'hlt).toNat : Int) == 46) = false := by rw [← hx, beq_eq_false_iff_ne]; omega
        have N1 : Hid (ahd r = r.take (j + 1) ++ ahd (r.drop (j + 1))) := by show _ = _; rw [RA.out, HX.out, ahd_cons_ne _ kx, HTK.out, List.append_assoc]; rfl
        have N2 : Hid (bhd r = bhd (r.drop (j + 1))) := by show _ = _; rw [RB.out, HX.out, bhd_cons_ne _ kx]
        have N3 : Hid (dotB r = dotB (r.drop (j + 1))) := by show _ = _; rw [RD.out, HX.out, dotB_cons_ne kx]
        clear hx kx HX HTK RA RB RD
        go_wp2_with fail
        go_round
        case rel => exact ⟨rfl, rfl, j + 1, by omega, by go_num, N1.out, N2.out, N3.out⟩
        case measure => simp [intOf]; omega
    · obtain rfl : j = S.size := by omega
      clear RA RB RD
      have hz0 : (ByteArray.mk #[]).size = 0 := rfl
      go_wp2_with fail
      go_loop [56] (fun iv => iv = .int .i64 0) (fun _ => 0)
      case atStart => exact rfl
      case round =>
        obtain rfl := hrel
        go_wp2_with fail
        refine (CG.out _).mono ?_; rintro e w3 ⟨rfl, hb1⟩; replace E := Lib.hid (St.step E.out hb1); clear hb1
        go_wp2_with fail
        clear hadd
        refine (CP.out _).mono ?_
        rintro e w4 (⟨-, A4, n4, c4, rfl, h4, hb1⟩ | ⟨hd, -⟩)
        rotate_left
        · exact absurd HG.out hd
        replace E := Lib.hid (St.push E.out hb1 h4)
        have HPO := Lib.hid (num_pos h4)
        clear hb1 h4
        obtain ⟨r0, r1, r2, rf0, rf1, rf2, rlt⟩ := St.at_ (x0 := .bool false) (x1 := .slice none 0 0) (x2 := .int .i64 0) (g := w.heap.size) E (by simp)
        go_wp2_with fail
        have EF := Lib.hid (St.store E.out (g := w.heap.size) (x0 := .bool false) (x1 := .slice none 0 0) (x2 := .int .i64 0) (by simp) (noLimb_bool _) (noLimb_slice _ _ _) (noLimb_int _) [] (fun q hq => by cases hq) (.bool (decide (0 < n4))) (.slice A4 n4 c4) (.int .i64 0))
        obtain ⟨e0, e1, e2, _, _, _, _⟩ := St.at_ (x0 := .bool (decide (0 < n4))) (x1 := .slice A4 n4 c4) (x2 := .int .i64 0) (g := w.heap.size) EF (by simp)
        exact bodyPost_ret (v := .tuple #[.agg #[.bool (decide (0 < n4)), .slice A4 n4 c4, .int .i64 0], .int .i64 0]) (by simp [results, Tryz.results7, go_sem, e0, e1, e2]) rfl ⟨A4, n4, c4, by rw [ng_sgn, HBL.out, HPO.out]; simp, by rw [HNUM.out]; exact St.got EF (by simp), EF.out.bel⟩

set_option maxRecDepth 100000 in
set_option maxHeartbeats 4000000 in
theorem rr_short_p (s : ByteArray) (r : List Nat) (w : World) (hs : s.size ≤ 1000) (hL : codes s = 43 :: r) (hr : r = []) :
    Calls Tryz.prog 7 #[.string s] w (RetErr w 2) := by
  have hlt : ∀ c ∈ codes s, c < 256 := codes_lt s
  have hll := codes_len s
  have hs0 : 0 < s.size := by rw [← hll, hL]; simp
  have hrlt : ∀ c ∈ r, c < 256 := fun c hc => hlt c (by rw [hL]; exact List.mem_cons_of_mem _ hc)
  have hx0 : (s[0]'hs0).toNat = 43 := by
    have e := codes_head s hs0
    rw [hL] at e
    injection e with e _
    exact e.symm
  have b1 : (((s[0]'hs0).toNat : Int) == 45) = false := by rw [hx0]; rfl
  have b2 : (((s[0]'hs0).toNat : Int) == 43) = true := by rw [hx0]; rfl
  obtain ⟨he1, he2, he3, he4⟩ := str_ne hs0
  have hrl : r.length ≤ 1000 := by rw [hL] at hll; simp at hll; omega
  have hext : s.extract 1 s.size = str r := by rw [extract_from s 1 _ rfl, hL]; rfl
  rw [hr, str_nil] at hext
  clear hx0 hL hr hrlt hrl hlt hll
  go_enter Tryz.func7, Tryz.ntmps7
  go_wp2_with fail
  generalize hW : World.alloc w _ = W0
  have E0 : St w W0 [] [(w.heap.size, .bool false, .slice none 0 0, .int .i64 0)] := by rw [← hW]; exact (St.start w (l := []) (fun q hq => absurd hq List.not_mem_nil)).lay rfl
  have E := Lib.hid E0
  clear hW E0
  obtain ⟨e0, e1, e2, _, _, _, _⟩ := St.at_ (x0 := .bool false) (x1 := .slice none 0 0) (x2 := .int .i64 0) (g := w.heap.size) E (by simp)
  exact bodyPost_ret (v := .tuple #[.agg #[.bool false, .slice none 0 0, .int .i64 0], .int .i64 2]) (by simp [results, Tryz.results7, go_sem, e0, e1, e2]) rfl ⟨rfl, E.out.bel⟩

set_option maxRecDepth 100000 in
set_option maxHeartbeats 4000000 in
theorem rr_tail_pd (s : ByteArray) (r : List Nat) (w : World) (hs : s.size ≤ 1000) (hL : codes s = 43 :: r) (hr : r ≠ []) (hd : dotB r = true) (hb : bhd r = []) :
    Calls Tryz.prog 7 #[.string s] w (RetErr w 3) := by
  have hlt : ∀ c ∈ codes s, c < 256 := codes_lt s
  have hll := codes_len s
  have hs0 : 0 < s.size := by rw [← hll, hL]; simp
  have hrlt : ∀ c ∈ r, c < 256 := fun c hc => hlt c (by rw [hL]; exact List.mem_cons_of_mem _ hc)
  have hx0 : (s[0]'hs0).toNat = 43 := by
    have e := codes_head s hs0
    rw [hL] at e
    injection e with e _
    exact e.symm
  have b1 : (((s[0]'hs0).toNat : Int) == 45) = false := by rw [hx0]; rfl
  have b2 : (((s[0]'hs0).toNat : Int) == 43) = true := by rw [hx0]; rfl
  obtain ⟨he1, he2, he3, he4⟩ := str_ne hs0
  have hrl : r.length ≤ 1000 := by rw [hL] at hll; simp at hll; omega
  have hext : s.extract 1 s.size = str r := by rw [extract_from s 1 _ rfl, hL]; rfl
  have hSp := str_pos hr
  have hSc : codes (str r) = r := codes_str hrlt
  have hSs : (str r).size = r.length := str_size r
  obtain ⟨S, hS⟩ : ∃ S, S = str r := ⟨_, rfl⟩
  rw [← hS] at hSp hSc hSs hext
  clear hS
  obtain ⟨hf1, hf2, hf3, hf4⟩ := str_ne hSp
  have hSb : S.size ≤ 1000 := by omega
  have hab := ahd_bhd_len r
  obtain ⟨Q, hQ⟩ : ∃ Q, Q = str (bhd r) := ⟨_, rfl⟩
  have hQc : codes Q = bhd r := by rw [hQ]; exact codes_str (fun c hc => hrlt c (bhd_sub _ c hc))
  have hQs : Q.size = (bhd r).length := by rw [hQ]; exact str_size _
  have hQb : Q.size ≤ 1000 := by omega
  rw [hb, str_nil] at hQ
  subst hQ
  obtain ⟨P, hP⟩ : ∃ P, P = str (ahd r) := ⟨_, rfl⟩
  have HSC := Lib.hid hSc
  have HSL := Lib.hid hSs
  have HD := Lib.hid hd
  have HQC := Lib.hid hQc
  have HB := Lib.hid hb
  have HP := Lib.hid hP
  clear hSc hSs hd hab hrlt hrl hlt hll hL hr hx0 hQc hQs hb hP
  go_enter Tryz.func7, Tryz.ntmps7
  go_wp2_with fail
  generalize hW : World.alloc w _ = W0
  have E0 : St w W0 [] [(w.heap.size, .bool false, .slice none 0 0, .int .i64 0)] := by rw [← hW]; exact (St.start w (l := []) (fun q hq => absurd hq List.not_mem_nil)).lay rfl
  have E := Lib.hid E0
  clear hW E0
  go_loop [5, 6, 36] (fun pv qv iv => pv = .string S ∧ qv = .string ⟨#[]⟩ ∧ ∃ j : Nat, j ≤ S.size ∧ iv = .int .i64 j ∧ ahd r = r.take j ++ ahd (r.drop j) ∧ bhd r = bhd (r.drop j) ∧ dotB r = dotB (r.drop j)) (fun _ _ iv => S.size - (intOf iv).toNat)
  case atStart => exact ⟨rfl, rfl, 0, Nat.zero_le _, rfl, rfl, rfl, rfl⟩
  case round =>
    obtain ⟨rfl, rfl, j, hj, rfl, ha, hb, hd⟩ := hrel
    have RA := Lib.hid ha
    have RB := Lib.hid hb
    have RD := Lib.hid hd
    clear ha hb hd
    rcases Nat.lt_or_ge j S.size with hlt | hge
    · have HX : Hid (r.drop j = (S[j]'hlt).toNat :: r.drop (j + 1)) := (by show _ = _; have e := codes_drop S j hlt; rw [HSC.out] at e; exact e)
      have HTK : Hid (r.take (j + 1) = r.take j ++ [(S[j]'hlt).toNat]) := (by show _ = _; have e := codes_take S j hlt; rw [HSC.out] at e; exact e)
      obtain ⟨x, hx⟩ : ∃ x, x = (S[j]'hlt).toNat := ⟨_, rfl⟩
      rw [← hx] at HX HTK
      by_cases kx : x = 46
      · have c1 : (((S[j]'hlt).toNat : Int) == 46) = true := by rw [← hx, kx]; rfl
        have eP : S.extract 0 j = P := by rw [extract_to, HSC.out, HP.out, RA.out, HX.out, kx, ahd_cons_eq, List.append_nil]
        have eQ : S.extract (j + 1) S.size = ⟨#[]⟩ := by rw [extract_from S (j + 1) _ rfl, HSC.out, ← str_nil, ← HB.out, RB.out, HX.out, kx, bhd_cons_eq]
        have j1 : j ≤ S.size := by omega
        have j2 : j + 1 ≤ S.size := by omega
        clear hx kx HX HTK RA RB RD
        go_wp2_with fail
        go_quiet (fail)
        rename_i nq
        replace E := Lib.hid (St.step (w' := World.drewN W0 nq) E.out Below.of_quiet)
        generalize World.drewN W0 nq = W1 at E ⊢
        obtain ⟨r0, r1, r2, rf0, rf1, rf2, rlt⟩ := St.at_ (x0 := .bool false) (x1 := .slice none 0 0) (x2 := .int .i64 0) (g := w.heap.size) E (by simp)
        go_wp2_with fail
        have EF := Lib.hid (St.store E.out (g := w.heap.size) (x0 := .bool false) (x1 := .slice none 0 0) (x2 := .int .i64 0) (by simp) (noLimb_bool _) (noLimb_slice _ _ _) (noLimb_int _) [] (fun q hq => by cases hq) (.bool false) (.slice none 0 0) (.int .i64 0))
        obtain ⟨e0, e1, e2, _, _, _, _⟩ := St.at_ (x0 := .bool false) (x1 := .slice none 0 0) (x2 := .int .i64 0) (g := w.heap.size) EF (by simp)
        exact bodyPost_ret (v := .tuple #[.agg #[.bool false, .slice none 0 0, .int .i64 0], .int .i64 3]) (by simp [results, Tryz.results7, go_sem, e0, e1, e2]) rfl ⟨rfl, EF.out.bel⟩
      · have c1 : (((S[j]'hlt).toNat : Int) == 46) = false := by rw [← hx, beq_eq_false_iff_ne]; omega
        have N1 : Hid (ahd r = r.take (j + 1) ++ ahd (r.drop (j + 1))) := by show _ = _; rw [RA.out, HX.out, ahd_cons_ne _ kx, HTK.out, List.append_assoc]; rfl
        have N2 : Hid (bhd r = bhd (r.drop (j + 1))) := by show _ = _; rw [RB.out, HX.out, bhd_cons_ne _ kx]
        have N3 : Hid (dotB r = dotB (r.drop (j + 1))) := by show _ = _; rw [RD.out, HX.out, dotB_cons_ne kx]
        clear hx kx HX HTK RA RB RD
        go_wp2_with fail
        go_round
        case rel => exact ⟨rfl, rfl, j + 1, by omega, by go_num, N1.out, N2.out, N3.out⟩
        case measure => simp [intOf]; omega
    · obtain rfl : j = S.size := by omega
      exact absurd (HD.out.symm.trans (RD.out.trans (show dotB (r.drop S.size) = false by rw [List.drop_of_length_le (by rw [HSL.out]; exact Nat.le_refl _)]; rfl))) (by decide)

set_option maxRecDepth 100000 in
set_option maxHeartbeats 4000000 in
theorem rr_tdig_pd (s : ByteArray) (r : List Nat) (w : World) (hs : s.size ≤ 1000) (hL : codes s = 43 :: r) (hr : r ≠ []) (hd : dotB r = true) (hb : bhd r ≠ []) (ht : dgB (bhd r) = false) :
    Calls Tryz.prog 7 #[.string s] w (RetErr w 3) := by
  have hlt : ∀ c ∈ codes s, c < 256 := codes_lt s
  have hll := codes_len s
  have hs0 : 0 < s.size := by rw [← hll, hL]; simp
  have hrlt : ∀ c ∈ r, c < 256 := fun c hc => hlt c (by rw [hL]; exact List.mem_cons_of_mem _ hc)
  have hx0 : (s[0]'hs0).toNat = 43 := by
    have e := codes_head s hs0
    rw [hL] at e
    injection e with e _
    exact e.symm
  have b1 : (((s[0]'hs0).toNat : Int) == 45) = false := by rw [hx0]; rfl
  have b2 : (((s[0]'hs0).toNat : Int) == 43) = true := by rw [hx0]; rfl
  obtain ⟨he1, he2, he3, he4⟩ := str_ne hs0
  have hrl : r.length ≤ 1000 := by rw [hL] at hll; simp at hll; omega
  have hext : s.extract 1 s.size = str r := by rw [extract_from s 1 _ rfl, hL]; rfl
  have hSp := str_pos hr
  have hSc : codes (str r) = r := codes_str hrlt
  have hSs : (str r).size = r.length := str_size r
  obtain ⟨S, hS⟩ : ∃ S, S = str r := ⟨_, rfl⟩
  rw [← hS] at hSp hSc hSs hext
  clear hS
  obtain ⟨hf1, hf2, hf3, hf4⟩ := str_ne hSp
  have hSb : S.size ≤ 1000 := by omega
  have hab := ahd_bhd_len r
  obtain ⟨Q, hQ⟩ : ∃ Q, Q = str (bhd r) := ⟨_, rfl⟩
  have hQc : codes Q = bhd r := by rw [hQ]; exact codes_str (fun c hc => hrlt c (bhd_sub _ c hc))
  have hQs : Q.size = (bhd r).length := by rw [hQ]; exact str_size _
  have hQb : Q.size ≤ 1000 := by omega
  have hQp : 0 < Q.size := by rw [hQs]; exact List.length_pos_iff.2 hb
  obtain ⟨hq1, hq2, hq3, hq4⟩ := str_ne hQp
  obtain ⟨P, hP⟩ : ∃ P, P = str (ahd r) := ⟨_, rfl⟩
  have HSC := Lib.hid hSc
  have HSL := Lib.hid hSs
  have HD := Lib.hid hd
  have HQC := Lib.hid hQc
  have HQ := Lib.hid hQ
  have HB := Lib.hid hb
  have HP := Lib.hid hP
  have HT := Lib.hid ht
  clear hSc hSs hd hab hrlt hrl hlt hll hL hr hx0 hQc hQs hQ hb hP ht
  go_enter Tryz.func7, Tryz.ntmps7
  go_wp2_with fail
  generalize hW : World.alloc w _ = W0
  have E0 : St w W0 [] [(w.heap.size, .bool false, .slice none 0 0, .int .i64 0)] := by rw [← hW]; exact (St.start w (l := []) (fun q hq => absurd hq List.not_mem_nil)).lay rfl
  have E := Lib.hid E0
  clear hW E0
  go_loop [5, 6, 36] (fun pv qv iv => pv = .string S ∧ qv = .string ⟨#[]⟩ ∧ ∃ j : Nat, j ≤ S.size ∧ iv = .int .i64 j ∧ ahd r = r.take j ++ ahd (r.drop j) ∧ bhd r = bhd (r.drop j) ∧ dotB r = dotB (r.drop j)) (fun _ _ iv => S.size - (intOf iv).toNat)
  case atStart => exact ⟨rfl, rfl, 0, Nat.zero_le _, rfl, rfl, rfl, rfl⟩
  case round =>
    obtain ⟨rfl, rfl, j, hj, rfl, ha, hb, hd⟩ := hrel
    have RA := Lib.hid ha
    have RB := Lib.hid hb
    have RD := Lib.hid hd
    clear ha hb hd
    rcases Nat.lt_or_ge j S.size with hlt | hge
    · have HX : Hid (r.drop j = (S[j]'hlt).toNat :: r.drop (j + 1)) := (by show _ = _; have e := codes_drop S j hlt; rw [HSC.out] at e; exact e)
      have HTK : Hid (r.take (j + 1) = r.take j ++ [(S[j]'hlt).toNat]) := (by show _ = _; have e := codes_take S j hlt; rw [HSC.out] at e; exact e)
      obtain ⟨x, hx⟩ : ∃ x, x = (S[j]'hlt).toNat := ⟨_, rfl⟩
      rw [← hx] at HX HTK
      by_cases kx : x = 46
      · have c1 : (((S[j]'hlt).toNat : Int) == 46) = true := by rw [← hx, kx]; rfl
        have eP : S.extract 0 j = P := by rw [extract_to, HSC.out, HP.out, RA.out, HX.out, kx, ahd_cons_eq, List.append_nil]
        have eQ : S.extract (j + 1) S.size = Q := by rw [extract_from S (j + 1) _ rfl, HSC.out, HQ.out, RB.out, HX.out, kx, bhd_cons_eq]
        have j1 : j ≤ S.size := by omega
        have j2 : j + 1 ≤ S.size := by omega
        clear hx kx HX HTK RA RB RD
        go_wp2_with fail
        go_quiet (fail)
        rename_i nq
        replace E := Lib.hid (St.step (w' := World.drewN W0 nq) E.out Below.of_quiet)
        generalize World.drewN W0 nq = W1 at E ⊢
        go_wp2_with fail
        go_loop [56] (fun iv => ∃ k : Nat, k ≤ Q.size ∧ iv = .int .i64 k ∧ dgB (bhd r) = dgB ((bhd r).drop k)) (fun iv => Q.size - (intOf iv).toNat)
        case atStart => exact ⟨0, Nat.zero_le _, rfl, rfl⟩
        case round =>
          obtain ⟨k, hk, rfl, hdk⟩ := hrel
          have RK := Lib.hid hdk
          clear hdk
          rcases Nat.lt_or_ge k Q.size with hkl | hkg
          · have HX : Hid ((bhd r).drop k = (Q[k]'hkl).toNat :: (bhd r).drop (k + 1)) := (by show _ = _; have e := codes_drop Q k hkl; rw [HQC.out] at e; exact e)
            obtain ⟨x, hx⟩ : ∃ x, x = (Q[k]'hkl).toNat := ⟨_, rfl⟩
            rw [← hx] at HX
            by_cases kx : 48 ≤ x ∧ x ≤ 57
            · have CD := Lib.hid (refDigit_yes (v := ((Q[k]'hkl).toNat : Int)) W1 (by rw [← hx]; omega) (by rw [← hx]; omega))
              have N1 : Hid (dgB (bhd r) = dgB ((bhd r).drop (k + 1))) := by show _ = _; rw [RK.out, HX.out, dgB_cons_yes kx]
              clear hx kx HX RK
              go_wp2_with fail
              refine CD.out.mono ?_; rintro e w2 ⟨rfl, rfl⟩
              clear CD
              go_wp2_with fail
              go_round
              case rel => exact ⟨k + 1, by omega, by go_num, N1.out⟩
              case measure => simp [intOf]; omega
            · have CD := Lib.hid (refDigit_no (v := ((Q[k]'hkl).toNat : Int)) W1 (by rw [← hx]; omega))
              clear hx kx HX RK
              go_wp2_with fail
              refine CD.out.mono ?_; rintro e w2 ⟨rfl, rfl⟩
              clear CD
              obtain ⟨r0, r1, r2, rf0, rf1, rf2, rlt⟩ := St.at_ (x0 := .bool false) (x1 := .slice none 0 0) (x2 := .int .i64 0) (g := w.heap.size) E (by simp)
              go_wp2_with fail
              have EF := Lib.hid (St.store E.out (g := w.heap.size) (x0 := .bool false) (x1 := .slice none 0 0) (x2 := .int .i64 0) (by simp) (noLimb_bool _) (noLimb_slice _ _ _) (noLimb_int _) [] (fun q hq => by cases hq) (.bool false) (.slice none 0 0) (.int .i64 0))
              obtain ⟨e0, e1, e2, _, _, _, _⟩ := St.at_ (x0 := .bool false) (x1 := .slice none 0 0) (x2 := .int .i64 0) (g := w.heap.size) EF (by simp)
              exact bodyPost_ret (v := .tuple #[.agg #[.bool false, .slice none 0 0, .int .i64 0], .int .i64 3]) (by simp [results, Tryz.results7, go_sem, e0, e1, e2]) rfl ⟨rfl, EF.out.bel⟩
          · exact absurd (HT.out.symm.trans (RK.out.trans (show dgB ((bhd r).drop k) = true by rw [List.drop_of_length_le (by have e := codes_len Q; rw [HQC.out] at e; rw [e]; exact hkg)]; rfl))) (by decide)
      · have c1 : (((S[j]'hlt).toNat : Int) == 46) = false := by rw [← hx, beq_eq_false_iff_ne]; omega
        have N1 : Hid (ahd r = r.take (j + 1) ++ ahd (r.drop (j + 1))) := by show _ = _; rw [RA.out, HX.out, ahd_cons_ne _ kx, HTK.out, List.append_assoc]; rfl
        have N2 : Hid (bhd r = bhd (r.drop (j + 1))) := by show _ = _; rw [RB.out, HX.out, bhd_cons_ne _ kx]
        have N3 : Hid (dotB r = dotB (r.drop (j + 1))) := by show _ = _; rw [RD.out, HX.out, dotB_cons_ne kx]
        clear hx kx HX HTK RA RB RD
        go_wp2_with fail
        go_round
        case rel => exact ⟨rfl, rfl, j + 1, by omega, by go_num, N1.out, N2.out, N3.out⟩
        case measure => simp [intOf]; omega
    · obtain rfl : j = S.size := by omega
      exact absurd (HD.out.symm.trans (RD.out.trans (show dotB (r.drop S.size) = false by rw [List.drop_of_length_le (by rw [HSL.out]; exact Nat.le_refl _)]; rfl))) (by decide)

set_option maxRecDepth 100000 in
set_option maxHeartbeats 4000000 in
theorem rr_ung_pd (s : ByteArray) (r : List Nat) (w : World) (hs : s.size ≤ 1000) (hL : codes s = 43 :: r) (hr : r ≠ []) (hd : dotB r = true) (hb : bhd r ≠ []) (ht : dgB (bhd r) = true) (hg : ahd r = [] ∨ gst (ahd r) 0 false = false) :
    Calls Tryz.prog 7 #[.string s] w (RetErr w 3) := by
  have hlt : ∀ c ∈ codes s, c < 256 := codes_lt s
  have hll := codes_len s
  have hs0 : 0 < s.size := by rw [← hll, hL]; simp
  have hrlt : ∀ c ∈ r, c < 256 := fun c hc => hlt c (by rw [hL]; exact List.mem_cons_of_mem _ hc)
  have hx0 : (s[0]'hs0).toNat = 43 := by
    have e := codes_head s hs0
    rw [hL] at e
    injection e with e _
    exact e.symm
  have b1 : (((s[0]'hs0).toNat : Int) == 45) = false := by rw [hx0]; rfl
  have b2 : (((s[0]'hs0).toNat : Int) == 43) = true := by rw [hx0]; rfl
  obtain ⟨he1, he2, he3, he4⟩ := str_ne hs0
  have hrl : r.length ≤ 1000 := by rw [hL] at hll; simp at hll; omega
  have hext : s.extract 1 s.size = str r := by rw [extract_from s 1 _ rfl, hL]; rfl
  have hSp := str_pos hr
  have hSc : codes (str r) = r := codes_str hrlt
  have hSs : (str r).size = r.length := str_size r
  obtain ⟨S, hS⟩ : ∃ S, S = str r := ⟨_, rfl⟩
  rw [← hS] at hSp hSc hSs hext
  clear hS
  obtain ⟨hf1, hf2, hf3, hf4⟩ := str_ne hSp
  have hSb : S.size ≤ 1000 := by omega
  have hab := ahd_bhd_len r
  obtain ⟨Q, hQ⟩ : ∃ Q, Q = str (bhd r) := ⟨_, rfl⟩
  have hQc : codes Q = bhd r := by rw [hQ]; exact codes_str (fun c hc => hrlt c (bhd_sub _ c hc))
  have hQs : Q.size = (bhd r).length := by rw [hQ]; exact str_size _
  have hQb : Q.size ≤ 1000 := by omega
  have hQp : 0 < Q.size := by rw [hQs]; exact List.length_pos_iff.2 hb
  obtain ⟨hq1, hq2, hq3, hq4⟩ := str_ne hQp
  obtain ⟨P, hP⟩ : ∃ P, P = str (ahd r) := ⟨_, rfl⟩
  have CG : Hid (∀ w', Calls Tryz.prog 25 #[.string P] w' (RetNo w')) := fun w' => by
    rw [hP]; exact groups_no (fun c hc => hrlt c (ahd_sub _ c hc)) (by omega) hg w'
  clear hg
  have HSC := Lib.hid hSc
  have HSL := Lib.hid hSs
  have HD := Lib.hid hd
  have HQC := Lib.hid hQc
  have HQ := Lib.hid hQ
  have HB := Lib.hid hb
  have HP := Lib.hid hP
  have HT := Lib.hid ht
  clear hSc hSs hd hab hrlt hrl hlt hll hL hr hx0 hQc hQs hQ hb hP ht
  go_enter Tryz.func7, Tryz.ntmps7
  go_wp2_with fail
  generalize hW : World.alloc w _ = W0
  have E0 : St w W0 [] [(w.heap.size, .bool false, .slice none 0 0, .int .i64 0)] := by rw [← hW]; exact (St.start w (l := []) (fun q hq => absurd hq List.not_mem_nil)).lay rfl
  have E := Lib.hid E0
  clear hW E0
  go_loop [5, 6, 36] (fun pv qv iv => pv = .string S ∧ qv = .string ⟨#[]⟩ ∧ ∃ j : Nat, j ≤ S.size ∧ iv = .int .i64 j ∧ ahd r = r.take j ++ ahd (r.drop j) ∧ bhd r = bhd (r.drop j) ∧ dotB r = dotB (r.drop j)) (fun _ _ iv => S.size - (intOf iv).toNat)
  case atStart => exact ⟨rfl, rfl, 0, Nat.zero_le _, rfl, rfl, rfl, rfl⟩
  case round =>
    obtain ⟨rfl, rfl, j, hj, rfl, ha, hb, hd⟩ := hrel
    have RA := Lib.hid ha
    have RB := Lib.hid hb
    have RD := Lib.hid hd
    clear ha hb hd
    rcases Nat.lt_or_ge j S.size with hlt | hge
    · have HX : Hid (r.drop j = (S[j]'hlt).toNat :: r.drop (j + 1)) := (by show _ = _; have e := codes_drop S j hlt; rw [HSC.out] at e; exact e)
      have HTK : Hid (r.take (j + 1) = r.take j ++ [(S[j]'hlt).toNat]) := (by show _ = _; have e := codes_take S j hlt; rw [HSC.out] at e; exact e)
      obtain ⟨x, hx⟩ : ∃ x, x = (S[j]'hlt).toNat := ⟨_, rfl⟩
      rw [← hx] at HX HTK
      by_cases kx : x = 46
      · have c1 : (((S[j]'hlt).toNat : Int) == 46) = true := by rw [← hx, kx]; rfl
        have eP : S.extract 0 j = P := by rw [extract_to, HSC.out, HP.out, RA.out, HX.out, kx, ahd_cons_eq, List.append_nil]
        have eQ : S.extract (j + 1) S.size = Q := by rw [extract_from S (j + 1) _ rfl, HSC.out, HQ.out, RB.out, HX.out, kx, bhd_cons_eq]
        have j1 : j ≤ S.size := by omega
        have j2 : j + 1 ≤ S.size := by omega
        clear hx kx HX HTK RA RB RD
        go_wp2_with fail
        go_quiet (fail)
        rename_i nq
        replace E := Lib.hid (St.step (w' := World.drewN W0 nq) E.out Below.of_quiet)
        generalize World.drewN W0 nq = W1 at E ⊢
        go_wp2_with fail
        go_loop [56] (fun iv => ∃ k : Nat, k ≤ Q.size ∧ iv = .int .i64 k ∧ dgB (bhd r) = dgB ((bhd r).drop k)) (fun iv => Q.size - (intOf iv).toNat)
        case atStart => exact ⟨0, Nat.zero_le _, rfl, rfl⟩
        case round =>
          obtain ⟨k, hk, rfl, hdk⟩ := hrel
          have RK := Lib.hid hdk
          clear hdk
          rcases Nat.lt_or_ge k Q.size with hkl | hkg
          · have HX : Hid ((bhd r).drop k = (Q[k]'hkl).toNat :: (bhd r).drop (k + 1)) := (by show _ = _; have e := codes_drop Q k hkl; rw [HQC.out] at e; exact e)
            obtain ⟨x, hx⟩ : ∃ x, x = (Q[k]'hkl).toNat := ⟨_, rfl⟩
            rw [← hx] at HX
            by_cases kx : 48 ≤ x ∧ x ≤ 57
            · have CD := Lib.hid (refDigit_yes (v := ((Q[k]'hkl).toNat : Int)) W1 (by rw [← hx]; omega) (by rw [← hx]; omega))
              have N1 : Hid (dgB (bhd r) = dgB ((bhd r).drop (k + 1))) := by show _ = _; rw [RK.out, HX.out, dgB_cons_yes kx]
              clear hx kx HX RK
              go_wp2_with fail
              refine CD.out.mono ?_; rintro e w2 ⟨rfl, rfl⟩
              clear CD
              go_wp2_with fail
              go_round
              case rel => exact ⟨k + 1, by omega, by go_num, N1.out⟩
              case measure => simp [intOf]; omega
            · exact absurd (HT.out.symm.trans (RK.out.trans (show dgB ((bhd r).drop k) = false by rw [HX.out, dgB_cons_no kx]))) (by decide)
          · obtain rfl : k = Q.size := by omega
            clear RK
            go_wp2_with fail
            refine (CG.out _).mono ?_; rintro e w3 ⟨SX, rfl, hb1⟩; replace E := Lib.hid (St.step E.out hb1); clear hb1
            obtain ⟨r0, r1, r2, rf0, rf1, rf2, rlt⟩ := St.at_ (x0 := .bool false) (x1 := .slice none 0 0) (x2 := .int .i64 0) (g := w.heap.size) E (by simp)
            go_wp2_with fail
            have EF := Lib.hid (St.store E.out (g := w.heap.size) (x0 := .bool false) (x1 := .slice none 0 0) (x2 := .int .i64 0) (by simp) (noLimb_bool _) (noLimb_slice _ _ _) (noLimb_int _) [] (fun q hq => by cases hq) (.bool false) (.slice none 0 0) (.int .i64 0))
            obtain ⟨e0, e1, e2, _, _, _, _⟩ := St.at_ (x0 := .bool false) (x1 := .slice none 0 0) (x2 := .int .i64 0) (g := w.heap.size) EF (by simp)
            exact bodyPost_ret (v := .tuple #[.agg #[.bool false, .slice none 0 0, .int .i64 0], .int .i64 3]) (by simp [results, Tryz.results7, go_sem, e0, e1, e2]) rfl ⟨rfl, EF.out.bel⟩
      · have c1 : (((S[j]'hlt).toNat : Int) == 46) = false := by rw [← hx, beq_eq_false_iff_ne]; omega
        have N1 : Hid (ahd r = r.take (j + 1) ++ ahd (r.drop (j + 1))) := by show _ = _; rw [RA.out, HX.out, ahd_cons_ne _ kx, HTK.out, List.append_assoc]; rfl
        have N2 : Hid (bhd r = bhd (r.drop (j + 1))) := by show _ = _; rw [RB.out, HX.out, bhd_cons_ne _ kx]
        have N3 : Hid (dotB r = dotB (r.drop (j + 1))) := by show _ = _; rw [RD.out, HX.out, dotB_cons_ne kx]
        clear hx kx HX HTK RA RB RD
        go_wp2_with fail
        go_round
        case rel => exact ⟨rfl, rfl, j + 1, by omega, by go_num, N1.out, N2.out, N3.out⟩
        case measure => simp [intOf]; omega
    · obtain rfl : j = S.size := by omega
      exact absurd (HD.out.symm.trans (RD.out.trans (show dotB (r.drop S.size) = false by rw [List.drop_of_length_le (by rw [HSL.out]; exact Nat.le_refl _)]; rfl))) (by decide)

set_option maxRecDepth 100000 in
set_option maxHeartbeats 4000000 in
theorem rr_ok_pd (s : ByteArray) (r : List Nat) (w : World) (hs : s.size ≤ 1000) (hL : codes s = 43 :: r) (hr : r ≠ []) (hd : dotB r = true) (hb : bhd r ≠ []) (ht : dgB (bhd r) = true) (ha : ahd r ≠ []) (hg : gst (ahd r) 0 false = true) (hdg : digs (digsOf r)) :
    Calls Tryz.prog 7 #[.string s] w (RetDecE w (sgn false (pv (digsOf r))) (bhd r).length) := by
  have hlt : ∀ c ∈ codes s, c < 256 := codes_lt s
  have hll := codes_len s
  have hs0 : 0 < s.size := by rw [← hll, hL]; simp
  have hrlt : ∀ c ∈ r, c < 256 := fun c hc => hlt c (by rw [hL]; exact List.mem_cons_of_mem _ hc)
  have hx0 : (s[0]'hs0).toNat = 43 := by
    have e := codes_head s hs0
    rw [hL] at e
    injection e with e _
    exact e.symm
  have b1 : (((s[0]'hs0).toNat : Int) == 45) = false := by rw [hx0]; rfl
  have b2 : (((s[0]'hs0).toNat : Int) == 43) = true := by rw [hx0]; rfl
  obtain ⟨he1, he2, he3, he4⟩ := str_ne hs0
  have hrl : r.length ≤ 1000 := by rw [hL] at hll; simp at hll; omega
  have hext : s.extract 1 s.size = str r := by rw [extract_from s 1 _ rfl, hL]; rfl
  have hSp := str_pos hr
  have hSc : codes (str r) = r := codes_str hrlt
  have hSs : (str r).size = r.length := str_size r
  obtain ⟨S, hS⟩ : ∃ S, S = str r := ⟨_, rfl⟩
  rw [← hS] at hSp hSc hSs hext
  clear hS
  obtain ⟨hf1, hf2, hf3, hf4⟩ := str_ne hSp
  have hSb : S.size ≤ 1000 := by omega
  have hab := ahd_bhd_len r
  obtain ⟨Q, hQ⟩ : ∃ Q, Q = str (bhd r) := ⟨_, rfl⟩
  have hQc : codes Q = bhd r := by rw [hQ]; exact codes_str (fun c hc => hrlt c (bhd_sub _ c hc))
  have hQs : Q.size = (bhd r).length := by rw [hQ]; exact str_size _
  have hQb : Q.size ≤ 1000 := by omega
  have hQp : 0 < Q.size := by rw [hQs]; exact List.length_pos_iff.2 hb
  obtain ⟨hq1, hq2, hq3, hq4⟩ := str_ne hQp
  obtain ⟨P, hP⟩ : ∃ P, P = str (ahd r) := ⟨_, rfl⟩
  have CG : Hid (∀ w', Calls Tryz.prog 25 #[.string P] w' (RetVal w' (.tuple #[.string (str (nocom (ahd r))), .bool true]))) := fun w' => by
    rw [hP]; exact groups_yes (fun c hc => hrlt c (ahd_sub _ c hc)) (by omega) ha hg w'
  have hdl := digsOf_len r
  have hnl := nocom_len (ahd r)
  have hnc := codes_str (l := nocom (ahd r)) (fun c hc => hrlt c (ahd_sub _ c (nocom_sub _ c hc)))
  have hne : nocom (ahd r) ≠ [] := by
    have e := gst_ungB ha
    rw [hg] at e
    exact nocom_ne ha (Bool.and_eq_true_iff.1 e.symm).1
  have hadd : ∀ w', (Op.stringOp .add (str (nocom (ahd r))) Q).run Tryz.prog w' = .ok (.string (str (digsOf r))) w' := fun w' => str_add7 (by rw [hnc, hQc]; unfold digsOf; rfl) (by rw [str_size]; omega) w'
  have hVc : codes (str (digsOf r)) = digsOf r := codes_str (app_lt (fun c hc => hrlt c (ahd_sub _ c (nocom_sub _ c hc))) (fun c hc => hrlt c (bhd_sub _ c hc)))
  have hVs : (str (digsOf r)).size = (digsOf r).length := str_size _
  have hVp : 0 < (str (digsOf r)).size := by
    rw [hVs]; unfold digsOf; rw [List.length_append]
    have := List.length_pos_iff.2 hne
    omega
  have CP : Hid (∀ w', Calls Tryz.prog 26 #[.string (str (digsOf r))] w' (RetParse w' (digsOf r))) := fun w' => by
    have e := refParse_any (str (digsOf r)) w' hVp (by omega)
    rw [hVc] at e; exact e
  obtain ⟨V, hV⟩ : ∃ V, V = str (digsOf r) := ⟨_, rfl⟩
  obtain ⟨U, hU⟩ : ∃ U, U = str (nocom (ahd r)) := ⟨_, rfl⟩
  rw [← hV, ← hU] at hadd
  rw [← hV] at CP
  rw [← hU] at CG
  have HG := Lib.hid hdg
  have HNUM : Hid ((sgn false (pv (digsOf r))).natAbs = pv (digsOf r)) := abs_sgn _ _
  clear hV hU hVp hVs hVc hdl hne hnc hnl hg hdg ha
  have HBL : Hid (Q.size = (bhd r).length) := hQs
  have HSC := Lib.hid hSc
  have HSL := Lib.hid hSs
  have HD := Lib.hid hd
  have HQC := Lib.hid hQc
  have HQ := Lib.hid hQ
  have HB := Lib.hid hb
  have HP := Lib.hid hP
  have HT := Lib.hid ht
  clear hSc hSs hd hab hrlt hrl hlt hll hL hr hx0 hQc hQs hQ hb hP ht
  go_enter Tryz.func7, Tryz.ntmps7
  go_wp2_with fail
  generalize hW : World.alloc w _ = W0
  have E0 : St w W0 [] [(w.heap.size, .bool false, .slice none 0 0, .int .i64 0)] := by rw [← hW]; exact (St.start w (l := []) (fun q hq => absurd hq List.not_mem_nil)).lay rfl
  have E := Lib.hid E0
  clear hW E0
  go_loop [5, 6, 36] (fun pv qv iv => pv = .string S ∧ qv = .string ⟨#[]⟩ ∧ ∃ j : Nat, j ≤ S.size ∧ iv = .int .i64 j ∧ ahd r = r.take j ++ ahd (r.drop j) ∧ bhd r = bhd (r.drop j) ∧ dotB r = dotB (r.drop j)) (fun _ _ iv => S.size - (intOf iv).toNat)
  case atStart => exact ⟨rfl, rfl, 0, Nat.zero_le _, rfl, rfl, rfl, rfl⟩
  case round =>
    obtain ⟨rfl, rfl, j, hj, rfl, ha, hb, hd⟩ := hrel
    have RA := Lib.hid ha
    have RB := Lib.hid hb
    have RD := Lib.hid hd
    clear ha hb hd
    rcases Nat.lt_or_ge j S.size with hlt | hge
    · have HX : Hid (r.drop j = (S[j]'hlt).toNat :: r.drop (j + 1)) := (by show _ = _; have e := codes_drop S j hlt; rw [HSC.out] at e; exact e)
      have HTK : Hid (r.take (j + 1) = r.take j ++ [(S[j]'hlt).toNat]) := (by show _ = _; have e := codes_take S j hlt; rw [HSC.out] at e; exact e)
      obtain ⟨x, hx⟩ : ∃ x, x = (S[j]'hlt).toNat := ⟨_, rfl⟩
      rw [← hx] at HX HTK
      by_cases kx : x = 46
      · have c1 : (((S[j]'hlt).toNat : Int) == 46) = true := by rw [← hx, kx]; rfl
        have eP : S.extract 0 j = P := by rw [extract_to, HSC.out, HP.out, RA.out, HX.out, kx, ahd_cons_eq, List.append_nil]
        have eQ : S.extract (j + 1) S.size = Q := by rw [extract_from S (j + 1) _ rfl, HSC.out, HQ.out, RB.out, HX.out, kx, bhd_cons_eq]
        have j1 : j ≤ S.size := by omega
        have j2 : j + 1 ≤ S.size := by omega
        clear hx kx HX HTK RA RB RD
        go_wp2_with fail
        go_quiet (fail)
        rename_i nq
        replace E := Lib.hid (St.step (w' := World.drewN W0 nq) E.out Below.of_quiet)
        generalize World.drewN W0 nq = W1 at E ⊢
        go_wp2_with fail
        go_loop [56] (fun iv => ∃ k : Nat, k ≤ Q.size ∧ iv = .int .i64 k ∧ dgB (bhd r) = dgB ((bhd r).drop k)) (fun iv => Q.size - (intOf iv).toNat)
        case atStart => exact ⟨0, Nat.zero_le _, rfl, rfl⟩
        case round =>
          obtain ⟨k, hk, rfl, hdk⟩ := hrel
          have RK := Lib.hid hdk
          clear hdk
          rcases Nat.lt_or_ge k Q.size with hkl | hkg
          · have HX : Hid ((bhd r).drop k = (Q[k]'hkl).toNat :: (bhd r).drop (k + 1)) := (by show _ = _; have e := codes_drop Q k hkl; rw [HQC.out] at e; exact e)
            obtain ⟨x, hx⟩ : ∃ x, x = (Q[k]'hkl).toNat := ⟨_, rfl⟩
            rw [← hx] at HX
            by_cases kx : 48 ≤ x ∧ x ≤ 57
            · have CD := Lib.hid (refDigit_yes (v := ((Q[k]'hkl).toNat : Int)) W1 (by rw [← hx]; omega) (by rw [← hx]; omega))
              have N1 : Hid (dgB (bhd r) = dgB ((bhd r).drop (k + 1))) := by show _ = _; rw [RK.out, HX.out, dgB_cons_yes kx]
              clear hx kx HX RK
              go_wp2_with fail
              refine CD.out.mono ?_; rintro e w2 ⟨rfl, rfl⟩
              clear CD
              go_wp2_with fail
              go_round
              case rel => exact ⟨k + 1, by omega, by go_num, N1.out⟩
              case measure => simp [intOf]; omega
            · exact absurd (HT.out.symm.trans (RK.out.trans (show dgB ((bhd r).drop k) = false by rw [HX.out, dgB_cons_no kx]))) (by decide)
          · obtain rfl : k = Q.size := by omega
            clear RK
            go_wp2_with fail
            refine (CG.out _).mono ?_; rintro e w3 ⟨rfl, hb1⟩; replace E := Lib.hid (St.step E.out hb1); clear hb1
            go_wp2_with fail
            clear hadd
            refine (CP.out _).mono ?_
            rintro e w4 (⟨-, A4, n4, c4, rfl, h4, hb1⟩ | ⟨hd, -⟩)
            rotate_left
            · exact absurd HG.out hd
            replace E := Lib.hid (St.push E.out hb1 h4)
            have HPO := Lib.hid (num_pos h4)
            clear hb1 h4
            obtain ⟨r0, r1, r2, rf0, rf1, rf2, rlt⟩ := St.at_ (x0 := .bool false) (x1 := .slice none 0 0) (x2 := .int .i64 0) (g := w.heap.size) E (by simp)
            go_wp2_with fail
            have EF := Lib.hid (St.store E.out (g := w.heap.size) (x0 := .bool false) (x1 := .slice none 0 0) (x2 := .int .i64 0) (by simp) (noLimb_bool _) (noLimb_slice _ _ _) (noLimb_int _) [] (fun q hq => by cases hq) (.bool false) (.slice A4 n4 c4) (.int .i64 (Q.size : Int)))
            obtain ⟨e0, e1, e2, _, _, _, _⟩ := St.at_ (x0 := .bool false) (x1 := .slice A4 n4 c4) (x2 := .int .i64 (Q.size : Int)) (g := w.heap.size) EF (by simp)
            exact bodyPost_ret (v := .tuple #[.agg #[.bool false, .slice A4 n4 c4, .int .i64 (Q.size : Int)], .int .i64 0]) (by simp [results, Tryz.results7, go_sem, e0, e1, e2]) rfl ⟨A4, n4, c4, by rw [ng_sgn, ← HBL.out]; simp, by rw [HNUM.out]; exact St.got EF (by simp), EF.out.bel⟩
      · have c1 : (((S[j]'hlt).toNat : Int) == 46) = false := by rw [← hx, beq_eq_false_iff_ne]; omega
        have N1 : Hid (ahd r = r.take (j + 1) ++ ahd (r.drop (j + 1))) := by show _ = _; rw [RA.out, HX.out, ahd_cons_ne _ kx, HTK.out, List.append_assoc]; rfl
        have N2 : Hid (bhd r = bhd (r.drop (j + 1))) := by show _ = _; rw [RB.out, HX.out, bhd_cons_ne _ kx]
        have N3 : Hid (dotB r = dotB (r.drop (j + 1))) := by show _ = _; rw [RD.out, HX.out, dotB_cons_ne kx]
        clear hx kx HX HTK RA RB RD
        go_wp2_with fail
        go_round
        case rel => exact ⟨rfl, rfl, j + 1, by omega, by go_num, N1.out, N2.out, N3.out⟩
        case measure => simp [intOf]; omega
    · obtain rfl : j = S.size := by omega
      exact absurd (HD.out.symm.trans (RD.out.trans (show dotB (r.drop S.size) = false by rw [List.drop_of_length_le (by rw [HSL.out]; exact Nat.le_refl _)]; rfl))) (by decide)

set_option maxRecDepth 100000 in
set_option maxHeartbeats 4000000 in
theorem rr_ung_pw (s : ByteArray) (r : List Nat) (w : World) (hs : s.size ≤ 1000) (hL : codes s = 43 :: r) (hr : r ≠ []) (hd : dotB r = false) (hg : ahd r = [] ∨ gst (ahd r) 0 false = false) :
    Calls Tryz.prog 7 #[.string s] w (RetErr w 3) := by
  have hlt : ∀ c ∈ codes s, c < 256 := codes_lt s
  have hll := codes_len s
  have hs0 : 0 < s.size := by rw [← hll, hL]; simp
  have hrlt : ∀ c ∈ r, c < 256 := fun c hc => hlt c (by rw [hL]; exact List.mem_cons_of_mem _ hc)
  have hx0 : (s[0]'hs0).toNat = 43 := by
    have e := codes_head s hs0
    rw [hL] at e
    injection e with e _
    exact e.symm
  have b1 : (((s[0]'hs0).toNat : Int) == 45) = false := by rw [hx0]; rfl
  have b2 : (((s[0]'hs0).toNat : Int) == 43) = true := by rw [hx0]; rfl
  obtain ⟨he1, he2, he3, he4⟩ := str_ne hs0
  have hrl : r.length ≤ 1000 := by rw [hL] at hll; simp at hll; omega
  have hext : s.extract 1 s.size = str r := by rw [extract_from s 1 _ rfl, hL]; rfl
  have hSp := str_pos hr
  have hSc : codes (str r) = r := codes_str hrlt
  have hSs : (str r).size = r.length := str_size r
  obtain ⟨S, hS⟩ : ∃ S, S = str r := ⟨_, rfl⟩
  rw [← hS] at hSp hSc hSs hext
  clear hS
  obtain ⟨hf1, hf2, hf3, hf4⟩ := str_ne hSp
  have hSb : S.size ≤ 1000 := by omega
  have hab := ahd_bhd_len r
  have hah := ahd_nodot hd
  have hbh := bhd_nil hd
  have hSr : S = str r := by rw [← hSc, str_codes]
  have CG : Hid (∀ w', Calls Tryz.prog 25 #[.string S] w' (RetNo w')) := fun w' => by
    have e := groups_no (l := ahd r) (fun c hc => hrlt c (ahd_sub _ c hc)) (by omega) hg w'
    rw [hah] at e; rw [hSr]; exact e
  clear hg hah hbh hSr
  have HSC := Lib.hid hSc
  have HSL := Lib.hid hSs
  have HD := Lib.hid hd
  clear hSc hSs hd hab hrlt hrl hlt hll hL hr hx0
  go_enter Tryz.func7, Tryz.ntmps7
  go_wp2_with fail
  generalize hW : World.alloc w _ = W0
  have E0 : St w W0 [] [(w.heap.size, .bool false, .slice none 0 0, .int .i64 0)] := by rw [← hW]; exact (St.start w (l := []) (fun q hq => absurd hq List.not_mem_nil)).lay rfl
  have E := Lib.hid E0
  clear hW E0
  go_loop [5, 6, 36] (fun pv qv iv => pv = .string S ∧ qv = .string ⟨#[]⟩ ∧ ∃ j : Nat, j ≤ S.size ∧ iv = .int .i64 j ∧ ahd r = r.take j ++ ahd (r.drop j) ∧ bhd r = bhd (r.drop j) ∧ dotB r = dotB (r.drop j)) (fun _ _ iv => S.size - (intOf iv).toNat)
  case atStart => exact ⟨rfl, rfl, 0, Nat.zero_le _, rfl, rfl, rfl, rfl⟩
  case round =>
    obtain ⟨rfl, rfl, j, hj, rfl, ha, hb, hd⟩ := hrel
    have RA := Lib.hid ha
    have RB := Lib.hid hb
    have RD := Lib.hid hd
    clear ha hb hd
    rcases Nat.lt_or_ge j S.size with hlt | hge
    · have HX : Hid (r.drop j = (S[j]'hlt).toNat :: r.drop (j + 1)) := (by show _ = _; have e := codes_drop S j hlt; rw [HSC.out] at e; exact e)
      have HTK : Hid (r.take (j + 1) = r.take j ++ [(S[j]'hlt).toNat]) := (by show _ = _; have e := codes_take S j hlt; rw [HSC.out] at e; exact e)
      obtain ⟨x, hx⟩ : ∃ x, x = (S[j]'hlt).toNat := ⟨_, rfl⟩
      rw [← hx] at HX HTK
      by_cases kx : x = 46
      · exact absurd (HD.out.symm.trans (RD.out.trans (show dotB (r.drop j) = true by rw [HX.out, kx]; exact dotB_cons_eq))) (by decide)
      · have c1 : (((S[j]'hlt).toNat : Int) == 46) = false := by rw [← hx, beq_eq_false_iff_ne]; omega
        have N1 : Hid (ahd r = r.take (j + 1) ++ ahd (r.drop (j + 1))) := by show _ = _; rw [RA.out, HX.out, ahd_cons_ne _ kx, HTK.out, List.append_assoc]; rfl
        have N2 : Hid (bhd r = bhd (r.drop (j + 1))) := by show _ = _; rw [RB.out, HX.out, bhd_cons_ne _ kx]
        have N3 : Hid (dotB r = dotB (r.drop (j + 1))) := by show _ = _; rw [RD.out, HX.out, dotB_cons_ne kx]
        clear hx kx HX HTK RA RB RD
        go_wp2_with fail
        go_round
        case rel => exact ⟨rfl, rfl, j + 1, by omega, by go_num, N1.out, N2.out, N3.out⟩
        case measure => simp [intOf]; omega
    · obtain rfl : j = S.size := by omega
      clear RA RB RD
      have hz0 : (ByteArray.mk #[]).size = 0 := rfl
      go_wp2_with fail
      go_loop [56] (fun iv => iv = .int .i64 0) (fun _ => 0)
      case atStart => exact rfl
      case round =>
        obtain rfl := hrel
        go_wp2_with fail
        refine (CG.out _).mono ?_; rintro e w3 ⟨SX, rfl, hb1⟩; replace E := Lib.hid (St.step E.out hb1); clear hb1
        obtain ⟨r0, r1, r2, rf0, rf1, rf2, rlt⟩ := St.at_ (x0 := .bool false) (x1 := .slice none 0 0) (x2 := .int .i64 0) (g := w.heap.size) E (by simp)
        go_wp2_with fail
        have EF := Lib.hid (St.store E.out (g := w.heap.size) (x0 := .bool false) (x1 := .slice none 0 0) (x2 := .int .i64 0) (by simp) (noLimb_bool _) (noLimb_slice _ _ _) (noLimb_int _) [] (fun q hq => by cases hq) (.bool false) (.slice none 0 0) (.int .i64 0))
        obtain ⟨e0, e1, e2, _, _, _, _⟩ := St.at_ (x0 := .bool false) (x1 := .slice none 0 0) (x2 := .int .i64 0) (g := w.heap.size) EF (by simp)
        exact bodyPost_ret (v := .tuple #[.agg #[.bool false, .slice none 0 0, .int .i64 0], .int .i64 3]) (by simp [results, Tryz.results7, go_sem, e0, e1, e2]) rfl ⟨rfl, EF.out.bel⟩

set_option maxRecDepth 100000 in
set_option maxHeartbeats 4000000 in
theorem rr_ok_pw (s : ByteArray) (r : List Nat) (w : World) (hs : s.size ≤ 1000) (hL : codes s = 43 :: r) (hr : r ≠ []) (hd : dotB r = false) (ha : ahd r ≠ []) (hg : gst (ahd r) 0 false = true) (hdg : digs (digsOf r)) :
    Calls Tryz.prog 7 #[.string s] w (RetDecE w (sgn false (pv (digsOf r))) (bhd r).length) := by
  have hlt : ∀ c ∈ codes s, c < 256 := codes_lt s
  have hll := codes_len s
  have hs0 : 0 < s.size := by rw [← hll, hL]; simp
  have hrlt : ∀ c ∈ r, c < 256 := fun c hc => hlt c (by rw [hL]; exact List.mem_cons_of_mem _ hc)
  have hx0 : (s[0]'hs0).toNat = 43 := by
    have e := codes_head s hs0
    rw [hL] at e
    injection e with e _
    exact e.symm
  have b1 : (((s[0]'hs0).toNat : Int) == 45) = false := by rw [hx0]; rfl
  have b2 : (((s[0]'hs0).toNat : Int) == 43) = true := by rw [hx0]; rfl
  obtain ⟨he1, he2, he3, he4⟩ := str_ne hs0
  have hrl : r.length ≤ 1000 := by rw [hL] at hll; simp at hll; omega
  have hext : s.extract 1 s.size = str r := by rw [extract_from s 1 _ rfl, hL]; rfl
  have hSp := str_pos hr
  have hSc : codes (str r) = r := codes_str hrlt
  have hSs : (str r).size = r.length := str_size r
  obtain ⟨S, hS⟩ : ∃ S, S = str r := ⟨_, rfl⟩
  rw [← hS] at hSp hSc hSs hext
  clear hS
  obtain ⟨hf1, hf2, hf3, hf4⟩ := str_ne hSp
  have hSb : S.size ≤ 1000 := by omega
  have hab := ahd_bhd_len r
  have hah := ahd_nodot hd
  have hbh := bhd_nil hd
  have hSr : S = str r := by rw [← hSc, str_codes]
  have CG : Hid (∀ w', Calls Tryz.prog 25 #[.string S] w' (RetVal w' (.tuple #[.string (str (nocom (ahd r))), .bool true]))) := fun w' => by
    have e := groups_yes (l := ahd r) (fun c hc => hrlt c (ahd_sub _ c hc)) (by omega) ha hg w'
    rw [hah] at e; rw [hSr, hah]; exact e
  have hdl := digsOf_len r
  have hnl := nocom_len (ahd r)
  have hnc := codes_str (l := nocom (ahd r)) (fun c hc => hrlt c (ahd_sub _ c (nocom_sub _ c hc)))
  have hne : nocom (ahd r) ≠ [] := by
    have e := gst_ungB ha
    rw [hg] at e
    exact nocom_ne ha (Bool.and_eq_true_iff.1 e.symm).1
  have hadd : ∀ w', (Op.stringOp .add (str (nocom (ahd r))) ⟨#[]⟩).run Tryz.prog w' = .ok (.string (str (digsOf r))) w' := fun w' => str_add7 (by rw [hnc]; unfold digsOf; rw [hbh]; rfl) (by rw [str_size]; show _ + 0 ≤ _; omega) w'
  have hVc : codes (str (digsOf r)) = digsOf r := codes_str (app_lt (fun c hc => hrlt c (ahd_sub _ c (nocom_sub _ c hc))) (fun c hc => hrlt c (bhd_sub _ c hc)))
  have hVs : (str (digsOf r)).size = (digsOf r).length := str_size _
  have hVp : 0 < (str (digsOf r)).size := by
    rw [hVs]; unfold digsOf; rw [List.length_append]
    have := List.length_pos_iff.2 hne
    omega
  have CP : Hid (∀ w', Calls Tryz.prog 26 #[.string (str (digsOf r))] w' (RetParse w' (digsOf r))) := fun w' => by
    have e := refParse_any (str (digsOf r)) w' hVp (by omega)
    rw [hVc] at e; exact e
  obtain ⟨V, hV⟩ : ∃ V, V = str (digsOf r) := ⟨_, rfl⟩
  obtain ⟨U, hU⟩ : ∃ U, U = str (nocom (ahd r)) := ⟨_, rfl⟩
  rw [← hV, ← hU] at hadd
  rw [← hV] at CP
  rw [← hU] at CG
  have HG := Lib.hid hdg
  have HNUM : Hid ((sgn false (pv (digsOf r))).natAbs = pv (digsOf r)) := abs_sgn _ _
  clear hV hU hVp hVs hVc hdl hne hnc hnl hg hdg ha
  have HBL : Hid ((bhd r).length = 0) := (by show _ = _; rw [hbh]; rfl)
  clear hah hbh hSr
  have HSC := Lib.hid hSc
  have HSL := Lib.hid hSs
  have HD := Lib.hid hd
  clear hSc hSs hd hab hrlt hrl hlt hll hL hr hx0
  go_enter Tryz.func7, Tryz.ntmps7
  go_wp2_with fail
  generalize hW : World.alloc w _ = W0
  have E0 : St w W0 [] [(w.heap.size, .bool false, .slice none 0 0, .int .i64 0)] := by rw [← hW]; exact (St.start w (l := []) (fun q hq => absurd hq List.not_mem_nil)).lay rfl
  have E := Lib.hid E0
  clear hW E0
  go_loop [5, 6, 36] (fun pv qv iv => pv = .string S ∧ qv = .string ⟨#[]⟩ ∧ ∃ j : Nat, j ≤ S.size ∧ iv = .int .i64 j ∧ ahd r = r.take j ++ ahd (r.drop j) ∧ bhd r = bhd (r.drop j) ∧ dotB r = dotB (r.drop j)) (fun _ _ iv => S.size - (intOf iv).toNat)
  case atStart => exact ⟨rfl, rfl, 0, Nat.zero_le _, rfl, rfl, rfl, rfl⟩
  case round =>
    obtain ⟨rfl, rfl, j, hj, rfl, ha, hb, hd⟩ := hrel
    have RA := Lib.hid ha
    have RB := Lib.hid hb
    have RD := Lib.hid hd
    clear ha hb hd
    rcases Nat.lt_or_ge j S.size with hlt | hge
    · have HX : Hid (r.drop j = (S[j]'hlt).toNat :: r.drop (j + 1)) := (by show _ = _; have e := codes_drop S j hlt; rw [HSC.out] at e; exact e)
      have HTK : Hid (r.take (j + 1) = r.take j ++ [(S[j]'hlt).toNat]) := (by show _ = _; have e := codes_take S j hlt; rw [HSC.out] at e; exact e)
      obtain ⟨x, hx⟩ : ∃ x, x = (S[j]'hlt).toNat := ⟨_, rfl⟩
      rw [← hx] at HX HTK
      by_cases kx : x = 46
      · exact absurd (HD.out.symm.trans (RD.out.trans (show dotB (r.drop j) = true by rw [HX.out, kx]; exact dotB_cons_eq))) (by decide)
      · have c1 : (((S[j]'hlt).toNat : Int) == 46) = false := by rw [← hx, beq_eq_false_iff_ne]; omega
        have N1 : Hid (ahd r = r.take (j + 1) ++ ahd (r.drop (j + 1))) := by show _ = _; rw [RA.out, HX.out, ahd_cons_ne _ kx, HTK.out, List.append_assoc]; rfl
        have N2 : Hid (bhd r = bhd (r.drop (j + 1))) := by show _ = _; rw [RB.out, HX.out, bhd_cons_ne _ kx]
        have N3 : Hid (dotB r = dotB (r.drop (j + 1))) := by show _ = _; rw [RD.out, HX.out, dotB_cons_ne kx]
        clear hx kx HX HTK RA RB RD
        go_wp2_with fail
        go_round
        case rel => exact ⟨rfl, rfl, j + 1, by omega, by go_num, N1.out, N2.out, N3.out⟩
        case measure => simp [intOf]; omega
    · obtain rfl : j = S.size := by omega
      clear RA RB RD
      have hz0 : (ByteArray.mk #[]).size = 0 := rfl
      go_wp2_with fail
      go_loop [56] (fun iv => iv = .int .i64 0) (fun _ => 0)
      case atStart => exact rfl
      case round =>
        obtain rfl := hrel
        go_wp2_with fail
        refine (CG.out _).mono ?_; rintro e w3 ⟨rfl, hb1⟩; replace E := Lib.hid (St.step E.out hb1); clear hb1
        go_wp2_with fail
        clear hadd
        refine (CP.out _).mono ?_
        rintro e w4 (⟨-, A4, n4, c4, rfl, h4, hb1⟩ | ⟨hd, -⟩)
        rotate_left
        · exact absurd HG.out hd
        replace E := Lib.hid (St.push E.out hb1 h4)
        have HPO := Lib.hid (num_pos h4)
        clear hb1 h4
        obtain ⟨r0, r1, r2, rf0, rf1, rf2, rlt⟩ := St.at_ (x0 := .bool false) (x1 := .slice none 0 0) (x2 := .int .i64 0) (g := w.heap.size) E (by simp)
        go_wp2_with fail
        have EF := Lib.hid (St.store E.out (g := w.heap.size) (x0 := .bool false) (x1 := .slice none 0 0) (x2 := .int .i64 0) (by simp) (noLimb_bool _) (noLimb_slice _ _ _) (noLimb_int _) [] (fun q hq => by cases hq) (.bool false) (.slice A4 n4 c4) (.int .i64 0))
        obtain ⟨e0, e1, e2, _, _, _, _⟩ := St.at_ (x0 := .bool false) (x1 := .slice A4 n4 c4) (x2 := .int .i64 0) (g := w.heap.size) EF (by simp)
        exact bodyPost_ret (v := .tuple #[.agg #[.bool false, .slice A4 n4 c4, .int .i64 0], .int .i64 0]) (by simp [results, Tryz.results7, go_sem, e0, e1, e2]) rfl ⟨A4, n4, c4, by rw [ng_sgn, HBL.out]; simp, by rw [HNUM.out]; exact St.got EF (by simp), EF.out.bel⟩

theorem rr_n (s : ByteArray) (r : List Nat) (w : World) (hs : s.size ≤ 1000) (hL : codes s = r) (hh : r.head? ≠ some 45 ∧ r.head? ≠ some 43) : Calls Tryz.prog 7 #[.string s] w (RetRead w (codes s)) := by
  have hrs : rst (codes s) = r := by rw [hL]; unfold rst; rw [if_neg (fun h => h.elim hh.1 hh.2)]
  have hsg : sgnB (codes s) = false := by rw [hL]; unfold sgnB; simpa using hh.1
  by_cases hr : r = []
  · exact (rr_short_n s r w hs hL hh hr).mono fun e w' h => .inl ⟨by rw [hrs]; exact hr, h⟩
  have hf := frm_parts r
  have hNO : ∀ {e w'}, frmB r = false → RetErr w 3 e w' → RetRead w (codes s) e w' := fun hb h => .inr (.inl ⟨by rw [hrs]; exact hr, by rw [hrs]; exact hb, h⟩)
  have hdgs : dgB (digsOf r) = (dgB (nocom (ahd r)) && dgB (bhd r)) := by
    rw [Bool.eq_iff_iff, Bool.and_eq_true, dgB_iff, dgB_iff, dgB_iff]; exact digs_append
  have hgs : ahd r ≠ [] → gst (ahd r) 0 false = (ungB (ahd r) && dgB (nocom (ahd r))) := gst_ungB
  cases hd : dotB r with
  | true =>
    by_cases hb : bhd r = []
    · exact (rr_tail_nd s r w hs hL hh hr hd hb).mono fun e w' h => hNO (by rw [hf, hd, hb]; simp) h
    have hb' : (bhd r == []) = false := by simpa using hb
    cases ht : dgB (bhd r) with
    | false => exact (rr_tdig_nd s r w hs hL hh hr hd hb ht).mono fun e w' h => hNO (by rw [hf, hdgs, ht]; simp) h
    | true =>
      by_cases ha : ahd r = []
      · exact (rr_ung_nd s r w hs hL hh hr hd hb ht (.inl ha)).mono fun e w' h => hNO (by rw [hf, ha]; rfl) h
      have ha' : (ahd r != []) = true := by simpa using ha
      cases hg : gst (ahd r) 0 false with
      | false => exact (rr_ung_nd s r w hs hL hh hr hd hb ht (.inr hg)).mono fun e w' h => hNO (by rw [hf, hdgs, ht, Bool.and_true, Bool.and_assoc, ← hgs ha, hg, Bool.and_false]) h
      | true =>
        have e1 := Bool.and_eq_true_iff.1 ((hgs ha).symm.trans hg)
        have hdg : digs (digsOf r) := dgB_iff.1 (by rw [hdgs, ht, e1.2]; rfl)
        have hfr : frmB r = true := by rw [hf, hd, hb', ha', e1.1, dgB_iff.2 hdg]; rfl
        exact (rr_ok_nd s r w hs hL hh hr hd hb ht ha hg hdg).mono fun e w' h => .inr (.inr ⟨by rw [hrs]; exact hr, by rw [hrs]; exact hfr, by unfold numD; rw [hsg, hrs]; exact h⟩)
  | false =>
    have ht : dgB (bhd r) = true := by rw [bhd_nil hd]; rfl
    by_cases ha : ahd r = []
    · exact (rr_ung_nw s r w hs hL hh hr hd (.inl ha)).mono fun e w' h => hNO (by rw [hf, ha]; rfl) h
    have ha' : (ahd r != []) = true := by simpa using ha
    cases hg : gst (ahd r) 0 false with
    | false => exact (rr_ung_nw s r w hs hL hh hr hd (.inr hg)).mono fun e w' h => hNO (by rw [hf, hdgs, ht, Bool.and_true, Bool.and_assoc, ← hgs ha, hg, Bool.and_false]) h
    | true =>
      have e1 := Bool.and_eq_true_iff.1 ((hgs ha).symm.trans hg)
      have hdg : digs (digsOf r) := dgB_iff.1 (by rw [hdgs, ht, e1.2]; rfl)
      have hfr : frmB r = true := by rw [hf, hd, ha', e1.1, dgB_iff.2 hdg]; rfl
      exact (rr_ok_nw s r w hs hL hh hr hd ha hg hdg).mono fun e w' h => .inr (.inr ⟨by rw [hrs]; exact hr, by rw [hrs]; exact hfr, by unfold numD; rw [hsg, hrs]; exact h⟩)

theorem rr_m (s : ByteArray) (r : List Nat) (w : World) (hs : s.size ≤ 1000) (hL : codes s = 45 :: r) : Calls Tryz.prog 7 #[.string s] w (RetRead w (codes s)) := by
  have hrs : rst (codes s) = r := by rw [hL]; exact rst_minus.1
  have hsg : sgnB (codes s) = true := by rw [hL]; exact rst_minus.2
  by_cases hr : r = []
  · exact (rr_short_m s r w hs hL hr).mono fun e w' h => .inl ⟨by rw [hrs]; exact hr, h⟩
  have hf := frm_parts r
  have hNO : ∀ {e w'}, frmB r = false → RetErr w 3 e w' → RetRead w (codes s) e w' := fun hb h => .inr (.inl ⟨by rw [hrs]; exact hr, by rw [hrs]; exact hb, h⟩)
  have hdgs : dgB (digsOf r) = (dgB (nocom (ahd r)) && dgB (bhd r)) := by
    rw [Bool.eq_iff_iff, Bool.and_eq_true, dgB_iff, dgB_iff, dgB_iff]; exact digs_append
  have hgs : ahd r ≠ [] → gst (ahd r) 0 false = (ungB (ahd r) && dgB (nocom (ahd r))) := gst_ungB
  cases hd : dotB r with
  | true =>
    by_cases hb : bhd r = []
    · exact (rr_tail_md s r w hs hL hr hd hb).mono fun e w' h => hNO (by rw [hf, hd, hb]; simp) h
    have hb' : (bhd r == []) = false := by simpa using hb
    cases ht : dgB (bhd r) with
    | false => exact (rr_tdig_md s r w hs hL hr hd hb ht).mono fun e w' h => hNO (by rw [hf, hdgs, ht]; simp) h
    | true =>
      by_cases ha : ahd r = []
      · exact (rr_ung_md s r w hs hL hr hd hb ht (.inl ha)).mono fun e w' h => hNO (by rw [hf, ha]; rfl) h
      have ha' : (ahd r != []) = true := by simpa using ha
      cases hg : gst (ahd r) 0 false with
      | false => exact (rr_ung_md s r w hs hL hr hd hb ht (.inr hg)).mono fun e w' h => hNO (by rw [hf, hdgs, ht, Bool.and_true, Bool.and_assoc, ← hgs ha, hg, Bool.and_false]) h
      | true =>
        have e1 := Bool.and_eq_true_iff.1 ((hgs ha).symm.trans hg)
        have hdg : digs (digsOf r) := dgB_iff.1 (by rw [hdgs, ht, e1.2]; rfl)
        have hfr : frmB r = true := by rw [hf, hd, hb', ha', e1.1, dgB_iff.2 hdg]; rfl
        exact (rr_ok_md s r w hs hL hr hd hb ht ha hg hdg).mono fun e w' h => .inr (.inr ⟨by rw [hrs]; exact hr, by rw [hrs]; exact hfr, by unfold numD; rw [hsg, hrs]; exact h⟩)
  | false =>
    have ht : dgB (bhd r) = true := by rw [bhd_nil hd]; rfl
    by_cases ha : ahd r = []
    · exact (rr_ung_mw s r w hs hL hr hd (.inl ha)).mono fun e w' h => hNO (by rw [hf, ha]; rfl) h
    have ha' : (ahd r != []) = true := by simpa using ha
    cases hg : gst (ahd r) 0 false with
    | false => exact (rr_ung_mw s r w hs hL hr hd (.inr hg)).mono fun e w' h => hNO (by rw [hf, hdgs, ht, Bool.and_true, Bool.and_assoc, ← hgs ha, hg, Bool.and_false]) h
    | true =>
      have e1 := Bool.and_eq_true_iff.1 ((hgs ha).symm.trans hg)
      have hdg : digs (digsOf r) := dgB_iff.1 (by rw [hdgs, ht, e1.2]; rfl)
      have hfr : frmB r = true := by rw [hf, hd, ha', e1.1, dgB_iff.2 hdg]; rfl
      exact (rr_ok_mw s r w hs hL hr hd ha hg hdg).mono fun e w' h => .inr (.inr ⟨by rw [hrs]; exact hr, by rw [hrs]; exact hfr, by unfold numD; rw [hsg, hrs]; exact h⟩)

theorem rr_p (s : ByteArray) (r : List Nat) (w : World) (hs : s.size ≤ 1000) (hL : codes s = 43 :: r) : Calls Tryz.prog 7 #[.string s] w (RetRead w (codes s)) := by
  have hrs : rst (codes s) = r := by rw [hL]; exact rst_plus.1
  have hsg : sgnB (codes s) = false := by rw [hL]; exact rst_plus.2
  by_cases hr : r = []
  · exact (rr_short_p s r w hs hL hr).mono fun e w' h => .inl ⟨by rw [hrs]; exact hr, h⟩
  have hf := frm_parts r
  have hNO : ∀ {e w'}, frmB r = false → RetErr w 3 e w' → RetRead w (codes s) e w' := fun hb h => .inr (.inl ⟨by rw [hrs]; exact hr, by rw [hrs]; exact hb, h⟩)
  have hdgs : dgB (digsOf r) = (dgB (nocom (ahd r)) && dgB (bhd r)) := by
    rw [Bool.eq_iff_iff, Bool.and_eq_true, dgB_iff, dgB_iff, dgB_iff]; exact digs_append
  have hgs : ahd r ≠ [] → gst (ahd r) 0 false = (ungB (ahd r) && dgB (nocom (ahd r))) := gst_ungB
  cases hd : dotB r with
  | true =>
    by_cases hb : bhd r = []
    · exact (rr_tail_pd s r w hs hL hr hd hb).mono fun e w' h => hNO (by rw [hf, hd, hb]; simp) h
    have hb' : (bhd r == []) = false := by simpa using hb
    cases ht : dgB (bhd r) with
    | false => exact (rr_tdig_pd s r w hs hL hr hd hb ht).mono fun e w' h => hNO (by rw [hf, hdgs, ht]; simp) h
    | true =>
      by_cases ha : ahd r = []
      · exact (rr_ung_pd s r w hs hL hr hd hb ht (.inl ha)).mono fun e w' h => hNO (by rw [hf, ha]; rfl) h
      have ha' : (ahd r != []) = true := by simpa using ha
      cases hg : gst (ahd r) 0 false with
      | false => exact (rr_ung_pd s r w hs hL hr hd hb ht (.inr hg)).mono fun e w' h => hNO (by rw [hf, hdgs, ht, Bool.and_true, Bool.and_assoc, ← hgs ha, hg, Bool.and_false]) h
      | true =>
        have e1 := Bool.and_eq_true_iff.1 ((hgs ha).symm.trans hg)
        have hdg : digs (digsOf r) := dgB_iff.1 (by rw [hdgs, ht, e1.2]; rfl)
        have hfr : frmB r = true := by rw [hf, hd, hb', ha', e1.1, dgB_iff.2 hdg]; rfl
        exact (rr_ok_pd s r w hs hL hr hd hb ht ha hg hdg).mono fun e w' h => .inr (.inr ⟨by rw [hrs]; exact hr, by rw [hrs]; exact hfr, by unfold numD; rw [hsg, hrs]; exact h⟩)
  | false =>
    have ht : dgB (bhd r) = true := by rw [bhd_nil hd]; rfl
    by_cases ha : ahd r = []
    · exact (rr_ung_pw s r w hs hL hr hd (.inl ha)).mono fun e w' h => hNO (by rw [hf, ha]; rfl) h
    have ha' : (ahd r != []) = true := by simpa using ha
    cases hg : gst (ahd r) 0 false with
    | false => exact (rr_ung_pw s r w hs hL hr hd (.inr hg)).mono fun e w' h => hNO (by rw [hf, hdgs, ht, Bool.and_true, Bool.and_assoc, ← hgs ha, hg, Bool.and_false]) h
    | true =>
      have e1 := Bool.and_eq_true_iff.1 ((hgs ha).symm.trans hg)
      have hdg : digs (digsOf r) := dgB_iff.1 (by rw [hdgs, ht, e1.2]; rfl)
      have hfr : frmB r = true := by rw [hf, hd, ha', e1.1, dgB_iff.2 hdg]; rfl
      exact (rr_ok_pw s r w hs hL hr hd ha hg hdg).mono fun e w' h => .inr (.inr ⟨by rw [hrs]; exact hr, by rw [hrs]; exact hfr, by unfold numD; rw [hsg, hrs]; exact h⟩)

theorem refRead_any (s : ByteArray) (w : World) (hs : s.size ≤ 1000) : Calls Tryz.prog 7 #[.string s] w (RetRead w (codes s)) := by
  cases hL : codes s with
  | nil => rw [← hL]; exact rr_n s [] w hs hL (by simp)
  | cons c r =>
    rw [← hL]
    by_cases h1 : c = 45
    · subst h1; exact rr_m s r w hs hL
    · by_cases h2 : c = 43
      · subst h2; exact rr_p s r w hs hL
      · exact rr_n s (c :: r) w hs hL (by simp [h1, h2])

end Go.Proofs.YtllcjahekckbfaaGreatDoor
