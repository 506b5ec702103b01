/-
  ScanJoins answers true.
-/
import Derived.Test.YthpoplgejenpgaaScaT
set_option linter.unusedVariables false
set_option linter.unusedSimpArgs false
namespace Go.Proofs.Ythpoplgejenpgaa
open Go.RowKit

/-- A slice of texts that is read. -/
def RdS (w : World) (A : Option Addr) (n c : Nat) (ss : List ByteArray) : Prop := n = ss.length ∧ n ≤ c ∧ c ≤ maxLen ∧ (ss = [] ∨ ∃ b o, A = some ⟨b, o, none⟩ ∧ b < w.heap.size ∧ ∀ j u, ss[j]? = some u → w.cell? ⟨b, o + j, none⟩ = some (.string u))
theorem RdS.on {w w' : World} {A : Option Addr} {n c : Nat} {ss : List ByteArray} (h : RdS w A n c ss) (hb : Below w.heap.size w w') : RdS w' A n c ss := by
  obtain ⟨h1, h2, h3, h | ⟨b, o, h4, h5, h6⟩⟩ := h
  · exact ⟨h1, h2, h3, .inl h⟩
  · exact ⟨h1, h2, h3, .inr ⟨b, o, h4, Nat.lt_of_lt_of_le h5 hb.size, fun j u hu => (hb.cell (p := ⟨b, o + j, none⟩) h5).trans (h6 j u hu)⟩⟩
/-- A text that may be a line: short, without an end, and without a 13 at its end. -/
def okl (s : ByteArray) : Prop := s.size ≤ 200 ∧ 10 ∉ bs9 s ∧ (bs9 s).getLast? ≠ some 13
theorem okl_rows {ss : List ByteArray} (h : ∀ s ∈ ss, okl s) : (∀ t ∈ ss.map bs9, 10 ∉ t ∧ t.getLast? ≠ some 13) ∧ (joinl (ss.map bs9)).length ≤ ss.length * 201 := by
  constructor
  · intro t ht
    obtain ⟨s, hs, rfl⟩ := List.mem_map.1 ht
    exact (h s hs).2
  · induction ss with
    | nil => exact Nat.le_refl _
    | cons s ss ih =>
      have h1 := ih fun t ht => h t (List.mem_cons_of_mem _ ht)
      have h2 := (h s List.mem_cons_self).1
      rw [List.map_cons, joinl_cons, List.length_append, List.length_cons, List.length_cons, bs9_len]; omega
theorem joinl_lt {L : List (List Nat)} (h : ∀ t ∈ L, ∀ c ∈ t, c < 256) : ∀ c ∈ joinl L, c < 256 := by
  intro c hc
  obtain ⟨t, ht, hc⟩ := List.mem_flatMap.1 hc
  rcases List.mem_append.1 hc with hc | hc
  · exact h t ht c hc
  · rw [List.mem_singleton.1 hc]; omega
theorem okl_lns {ss : List ByteArray} (h : ∀ s ∈ ss, okl s) : lns (st9 (joinl (ss.map bs9))) = ss.map bs9 := by
  unfold lns
  rw [bs9_st9 (joinl_lt fun t ht => by obtain ⟨s, _, rfl⟩ := List.mem_map.1 ht; exact bs9_lt s), linl_join (okl_rows h).1]
theorem take_push {ss : List ByteArray} {k : Nat} {s : ByteArray} (h : ss[k]? = some s) : (ss.take (k + 1)).map bs9 = (ss.take k).map bs9 ++ [bs9 s] := by
  rw [List.take_add_one, h, List.map_append]; rfl

theorem emp_not {s : ByteArray} (h : 0 < s.size) : s.toList.isEmpty = false := by
  have := str_ne h
  cases hx : s.toList with
  | nil => rw [hx] at this; simp at this
  | cons a l => rfl
theorem emp_yes {s : ByteArray} (h : s.size = 0) : s.toList.isEmpty = true := by rw [str_nil h, ByteArray.toList_eq]; rfl

set_option maxHeartbeats 4000000 in
set_option maxRecDepth 100000 in
theorem joins10_law {ss : List ByteArray} {A : Option Addr} {n c : Nat} (w : World) (h : RdS w A n c ss) : Calls Try.prog 4 #[.slice A n c] w (Ret9 w (.bool true)) := by
  have H := Lib.hid h
  have hnl : n ≤ maxLen := Nat.le_trans h.2.1 h.2.2.1
  have hnl2 : n ≤ 9223372036854775807 := hnl
  clear h hnl
  have E : Hid (Below w.heap.size w w) := Below.refl _ _
  rcases Nat.lt_or_ge 40 n with h40 | h40
  · have d : decide ((40 : Int) < (n : Int)) = true := decide_eq_true (by omega)
    go_enter Try.func4, Try.ntmps4
    go_wp2_with fail
    refine (awake10 _).mono ?_; rintro e w1 ⟨rfl, hb⟩; replace E := Lib.hid (E.out.trans (hb.mono E.out.size)); clear hb
    go_wp2_with fail
    go_ret
    exact ⟨rfl, E.out⟩
  have d : decide ((40 : Int) < (n : Int)) = false := decide_eq_false (by omega)
  obtain ⟨i0, hi, hz0, hz1, hz2⟩ := info_parts10 info_line
  clear E
  go_enter Try.func4, Try.ntmps4
  go_wp2_with fail
  go_loopw [3, 15] (fun mv kv wr => ∃ k : Nat, kv = .int .i64 k ∧ k ≤ n ∧ OwnL wr w.heap.size mv ((ss.take k).map bs9) ∧ (∀ s ∈ ss.take k, okl s) ∧ Below w.heap.size w wr) (fun _ kv _ => n - (intOf kv).toNat)
  case atStart => exact ⟨0, rfl, Nat.zero_le _, OwnL.start _ _, fun s hs => absurd hs List.not_mem_nil, Below.refl _ _⟩
  case round =>
    obtain ⟨k, rfl, hk, hown, hok, hb⟩ := hrel
    have OW := Lib.hid hown
    have HB := Lib.hid hb
    have OK := Lib.hid hok
    clear hown hok hb
    rcases Nat.lt_or_ge k n with hlt | hge
    · obtain ⟨r1, r2, r3, r4 | ⟨b, o, rfl, r5, r6⟩⟩ := H.out.on HB.out
      · rw [r4] at r1; simp at r1; omega
      have hks : k < ss.length := by omega
      obtain ⟨s, hs⟩ : ∃ s, ss[k]? = some s := ⟨_, List.getElem?_eq_getElem hks⟩
      have c1 := r6 k s hs
      have HS := Lib.hid hs
      have hssz : Hid (n = ss.length) := r1
      obtain ⟨A2, c2, hmv⟩ := OW.out.slen
      subst hmv
      have hlk : ((ss.take k).map bs9).length = k := by rw [List.length_map, List.length_take]; omega
      rw [hlk] at OW ⊢
      clear r1 r5 r6 hs hks hlk
      have AW : Hid (∀ w', Below w.heap.size w w' → Calls Try.prog 6 #[] w' (Ret9 w (.bool true))) := fun w' hb => (awake10 w').mono fun e w2 ⟨h1, h2⟩ => ⟨h1, hb.trans (h2.mono hb.size)⟩
      rcases Nat.lt_or_ge 200 s.size with hsz | hsz
      · have dz : decide ((200 : Int) < (s.size : Int)) = true := decide_eq_true (by omega)
        go_wp2_with fail
        refine (AW.out _ HB.out).mono ?_; rintro e w1 ⟨rfl, hb⟩
        go_wp2_with fail
        go_ret
        exact ⟨rfl, hb⟩
      have dz : decide ((200 : Int) < (s.size : Int)) = false := decide_eq_false (by omega)
      by_cases h13 : (bs9 s).getLast? = some 13
      · have h0 : 0 < s.size := by rw [← bs9_len]; exact List.length_pos_iff.2 (fun e => by rw [e] at h13; simp at h13)
        have dn := emp_not h0
        obtain ⟨m, hm⟩ : ∃ m, m + 1 = s.size := ⟨s.size - 1, by omega⟩
        have em : (s.size : Int) - 1 = (m : Int) := by omega
        have hms : m < s.size := by omega
        have ex : ((s[m]'hms).toNat : Int) = 13 := by
          rw [List.getLast?_eq_getElem?, bs9_len, ← hm, Nat.add_sub_cancel, bs9_at s m hms] at h13
          have := Option.some.inj h13
          omega
        clear h13
        go_wp2_with fail
        refine (AW.out _ HB.out).mono ?_; rintro e w1 ⟨rfl, hb⟩
        go_wp2_with fail
        go_ret
        exact ⟨rfl, hb⟩
      have DT : Hid (s.size = 0 ∨ ∃ m, ∃ h : m < s.size, (s.size : Int) - 1 = (m : Int) ∧ (((s[m]'h).toNat : Int) == 13) = false) := by
        rcases Nat.eq_zero_or_pos s.size with h0 | h0
        · exact .inl h0
        · refine .inr ⟨s.size - 1, by omega, by omega, ?_⟩
          rw [beq_eq_false_iff_ne]
          intro e
          apply h13
          rw [List.getLast?_eq_getElem?, bs9_len, bs9_at s (s.size - 1) (by omega)]
          exact congrArg some (by omega)
      have H13 := Lib.hid h13
      clear h13
      have CASE : Hid (∃ b1 b2 : Bool, True) := ⟨true, true, trivial⟩
      clear CASE
      rcases DT.out with h0 | ⟨m, hms, em, dx⟩
      · have dn := emp_yes h0
        clear DT
        obtain ⟨wo, rfl⟩ : ∃ wo : World, wo = wr := ⟨_, rfl⟩
        go_wp2_with fail
        go_loopw [38] (fun jv wr => ∃ j : Nat, jv = .int .i64 j ∧ j ≤ s.size ∧ 10 ∉ (bs9 s).take j ∧ wr = wo) (fun jv _ => s.size - (intOf jv).toNat)
        case atStart => exact ⟨0, rfl, Nat.zero_le _, List.not_mem_nil, rfl⟩
        case round =>
          obtain ⟨j, rfl, hj, hnt, rfl⟩ := hrel
          have HNT := Lib.hid hnt
          clear hnt
          rcases Nat.lt_or_ge j s.size with hjs | hjs
          · exact absurd hjs (by omega)
          · have HOK : Hid (okl s) := ⟨hsz, by have := HNT.out; rwa [List.take_of_length_le (by rw [bs9_len]; omega)] at this, H13.out⟩
            obtain ⟨W9, hW9⟩ : ∃ v, World.alloc wr (.cells #[.int .i64 ((k : Int) + 1), .string s] 27) = v := ⟨_, rfl⟩
            obtain ⟨LL, hLL⟩ : ∃ LL, (ss.take k).map bs9 = LL := ⟨_, rfl⟩
            have hLk : LL.length = k := by rw [← hLL, List.length_map, List.length_take]; have := hssz.out; omega
            have OWL := OW.out
            rw [hLL] at OWL
            have OW9 : Hid (OwnL W9 w.heap.size (.slice A2 k c2) LL) := by rw [← hW9]; exact OWL.on ((Below.refl _ _).alloc (Nat.le_refl _) _)
            have HB9 : Hid (Below w.heap.size w W9) := by rw [← hW9]; exact HB.out.alloc HB.out.size _
            have NEW : Hid (∀ j u, ([.int .i64 ((LL.length + 1 : Nat) : Int), .string (st9 (bs9 s))] : List Value)[j]? = some u → W9.cell? ((⟨wr.heap.size, 0, none⟩ : Addr).add j) = some u) := by
              show ∀ j u, _
              rw [← hW9, st9_bs9, hLk]
              have := line_new (w := wr) k (bs9 s) 27
              rw [st9_bs9] at this
              exact this
            have HNX : Hid ((ss.take (k + 1)).map bs9 = LL ++ [bs9 s]) := by show _ = _; rw [take_push HS.out, hLL]
            have HOKS : Hid (∀ t ∈ ss.take (k + 1), okl t) := by
              intro t ht
              rw [List.take_add_one, HS.out] at ht
              rcases List.mem_append.1 ht with ht | ht
              · exact OK.out t ht
              · rw [List.mem_singleton.1 ht]; exact HOK.out
            have HLK := Lib.hid hLk
            clear hLL OWL hLk
            go_wp2_with (at_builtin; (try rw [hW9]); refine wpList_append_lies _ rfl (.tmp 47) (.tmp 52) 23 rfl w.heap.size 27 i0 (.agg #[.int .i64 0, .string ⟨#[]⟩]) 2 24 Try.underlying23 hi hz0 hz1 hz2 zcells2 (by decide) (.slice A2 k c2) LL.length (row10 0 LL) rfl OW9.out ⟨wr.heap.size, 0, none⟩ 1 1 [.int .i64 ((LL.length + 1 : Nat) : Int), .string (st9 (bs9 s))] rfl rfl NEW.out (by intro u hu; simp at hu; rcases hu with rfl | rfl <;> rfl) (by decide) (by have := HLK.out; unfold maxLen; omega) (by have := HLK.out; omega) HB9.out.size W9.heap.size rfl ?_; intro g4 cap4 w11 hown4 hgr4 hat4 hlt4; have OWB : Hid (OwnL w11 w.heap.size (.slice (some ⟨g4, 0, none⟩) (LL.length + 1) cap4) (LL ++ [bs9 s])) := (by show OwnL _ _ _ _; unfold OwnL; rw [List.length_append, row10_push, Nat.zero_add]; exact hown4); have HBB : Hid (Below w.heap.size w w11) := below_grown HB9.out OW9.out hgr4; clear hown4 hgr4 hat4 hlt4)
            go_roundw
            case rel => exact ⟨k + 1, by go_num, by omega, by rw [HNX.out]; exact OWB.out, HOKS.out, HBB.out⟩
            case measure => simp [intOf] <;> omega
      · have dn := emp_not (s := s) (by omega)
        clear DT
        obtain ⟨wo, rfl⟩ : ∃ wo : World, wo = wr := ⟨_, rfl⟩
        go_wp2_with fail
        go_loopw [38] (fun jv wr => ∃ j : Nat, jv = .int .i64 j ∧ j ≤ s.size ∧ 10 ∉ (bs9 s).take j ∧ wr = wo) (fun jv _ => s.size - (intOf jv).toNat)
        case atStart => exact ⟨0, rfl, Nat.zero_le _, List.not_mem_nil, rfl⟩
        case round =>
          obtain ⟨j, rfl, hj, hnt, rfl⟩ := hrel
          have HNT := Lib.hid hnt
          clear hnt
          rcases Nat.lt_or_ge j s.size with hjs | hjs
          · obtain ⟨x, hx⟩ : ∃ x, x = (s[j]'hjs).toNat := ⟨_, rfl⟩
            have exj : ((s[j]'hjs).toNat : Int) = (x : Int) := by rw [hx]
            have hxs : (bs9 s)[j]? = some x := by rw [bs9_at s j hjs, hx]
            clear hx
            by_cases h10 : x = 10
            · have d10 : ((x : Int) == 10) = true := by rw [h10]; rfl
              clear h10 hxs
              go_wp2_with fail
              refine (AW.out _ HB.out).mono ?_; rintro e w1 ⟨rfl, hb⟩
              go_wp2_with fail
              go_ret
              exact ⟨rfl, hb⟩
            · have d10 : ((x : Int) == 10) = false := by rw [beq_eq_false_iff_ne]; omega
              have HNT2 : Hid (10 ∉ (bs9 s).take (j + 1)) := by
                show _ ∉ _
                rw [List.take_add_one, hxs]
                intro e
                rcases List.mem_append.1 e with e | e
                · exact HNT.out e
                · exact h10 (List.mem_singleton.1 e).symm
              clear h10 hxs
              go_wp2_with fail
              go_roundw
              case rel => exact ⟨j + 1, by go_num, by omega, HNT2.out, trivial⟩
              case measure => simp [intOf] <;> omega
          · have HOK : Hid (okl s) := ⟨hsz, by have := HNT.out; rwa [List.take_of_length_le (by rw [bs9_len]; omega)] at this, H13.out⟩
            obtain ⟨W9, hW9⟩ : ∃ v, World.alloc wr (.cells #[.int .i64 ((k : Int) + 1), .string s] 27) = v := ⟨_, rfl⟩
            obtain ⟨LL, hLL⟩ : ∃ LL, (ss.take k).map bs9 = LL := ⟨_, rfl⟩
            have hLk : LL.length = k := by rw [← hLL, List.length_map, List.length_take]; have := hssz.out; omega
            have OWL := OW.out
            rw [hLL] at OWL
            have OW9 : Hid (OwnL W9 w.heap.size (.slice A2 k c2) LL) := by rw [← hW9]; exact OWL.on ((Below.refl _ _).alloc (Nat.le_refl _) _)
            have HB9 : Hid (Below w.heap.size w W9) := by rw [← hW9]; exact HB.out.alloc HB.out.size _
            have NEW : Hid (∀ j u, ([.int .i64 ((LL.length + 1 : Nat) : Int), .string (st9 (bs9 s))] : List Value)[j]? = some u → W9.cell? ((⟨wr.heap.size, 0, none⟩ : Addr).add j) = some u) := by
              show ∀ j u, _
              rw [← hW9, st9_bs9, hLk]
              have := line_new (w := wr) k (bs9 s) 27
              rw [st9_bs9] at this
              exact this
            have HNX : Hid ((ss.take (k + 1)).map bs9 = LL ++ [bs9 s]) := by show _ = _; rw [take_push HS.out, hLL]
            have HOKS : Hid (∀ t ∈ ss.take (k + 1), okl t) := by
              intro t ht
              rw [List.take_add_one, HS.out] at ht
              rcases List.mem_append.1 ht with ht | ht
              · exact OK.out t ht
              · rw [List.mem_singleton.1 ht]; exact HOK.out
            have HLK := Lib.hid hLk
            clear hLL OWL hLk
            go_wp2_with (at_builtin; (try rw [hW9]); refine wpList_append_lies _ rfl (.tmp 47) (.tmp 52) 23 rfl w.heap.size 27 i0 (.agg #[.int .i64 0, .string ⟨#[]⟩]) 2 24 Try.underlying23 hi hz0 hz1 hz2 zcells2 (by decide) (.slice A2 k c2) LL.length (row10 0 LL) rfl OW9.out ⟨wr.heap.size, 0, none⟩ 1 1 [.int .i64 ((LL.length + 1 : Nat) : Int), .string (st9 (bs9 s))] rfl rfl NEW.out (by intro u hu; simp at hu; rcases hu with rfl | rfl <;> rfl) (by decide) (by have := HLK.out; unfold maxLen; omega) (by have := HLK.out; omega) HB9.out.size W9.heap.size rfl ?_; intro g4 cap4 w11 hown4 hgr4 hat4 hlt4; have OWB : Hid (OwnL w11 w.heap.size (.slice (some ⟨g4, 0, none⟩) (LL.length + 1) cap4) (LL ++ [bs9 s])) := (by show OwnL _ _ _ _; unfold OwnL; rw [List.length_append, row10_push, Nat.zero_add]; exact hown4); have HBB : Hid (Below w.heap.size w w11) := below_grown HB9.out OW9.out hgr4; clear hown4 hgr4 hat4 hlt4)
            go_roundw
            case rel => exact ⟨k + 1, by go_num, by omega, by rw [HNX.out]; exact OWB.out, HOKS.out, HBB.out⟩
            case measure => simp [intOf] <;> omega
    · obtain rfl : k = n := by omega
      have hnss := H.out.1
      have hok := OK.out
      have hown := OW.out
      rw [List.take_of_length_le (by omega)] at hok hown
      obtain ⟨g1, g2⟩ := okl_rows hok
      have g3 := okl_lns hok
      have hlk : (ss.map bs9).length = k := by rw [List.length_map]; omega
      obtain ⟨LL, hLL⟩ : ∃ LL, ss.map bs9 = LL := ⟨_, rfl⟩
      rw [hLL] at hown g2 g3 hlk
      have HLK := Lib.hid hlk
      obtain ⟨A2, c2, hmv, hrd⟩ := hown.rd
      subst hmv
      rw [HLK.out]
      have RM := Lib.hid hrd
      have G2 : Hid ((joinl LL).length ≤ 10000) := by show _ ≤ _; omega
      obtain ⟨J, hJ⟩ : ∃ J, st9 (joinl LL) = J := ⟨_, rfl⟩
      have HJ := Lib.hid hJ
      rw [hJ] at g3
      have G3 := Lib.hid g3
      have hJs : J.size ≤ 1000000 := by rw [← hJ, st9_size]; have := G2.out; omega
      clear hnss hok hown g1 g2 g3 hlk hrd hJ hLL OW OK
      go_wp2_with fail
      refine (join_got RM.out HLK.out HJ.out (by have := HLK.out; omega) (by have := G2.out; omega)).mono ?_; rintro e w1 ⟨rfl, hb⟩
      replace HB := Lib.hid (HB.out.trans (hb.mono HB.out.size)); replace RM := Lib.hid (RM.out.on hb); clear hb
      go_wp2_with fail
      refine (lines_any J _ hJs).mono ?_; rintro e w2 ⟨v, rfl, hown, hb⟩
      rw [G3.out] at hown
      obtain ⟨A3, c3, hmv, hrd⟩ := hown.rd
      subst hmv
      rw [HLK.out]
      have RN := Lib.hid hrd
      replace HB := Lib.hid (HB.out.trans (hb.mono HB.out.size)); replace RM := Lib.hid (RM.out.on hb); clear hb hown hrd
      go_wp2_with fail
      go_loopw [65] (fun jv wr => ∃ j : Nat, jv = .int .i64 j ∧ j ≤ k ∧ RdL wr A2 c2 LL ∧ RdL wr A3 c3 LL ∧ Below w.heap.size w wr) (fun jv _ => k - (intOf jv).toNat)
      case atStart => exact ⟨0, rfl, Nat.zero_le _, RM.out, RN.out, HB.out⟩
      case round =>
        obtain ⟨j, rfl, hj, hm, hn, hb⟩ := hrel
        clear RM RN HB
        have RM := Lib.hid hm
        have RN := Lib.hid hn
        have HB := Lib.hid hb
        clear hm hn hb
        rcases Nat.lt_or_ge j k with hjk | hjk
        · obtain ⟨b1, rfl, m1, m2, m3, m4, m5⟩ := RM.out.at_ (k := j) (by rw [HLK.out]; exact hjk)
          obtain ⟨b2, rfl, n1, n2, n3, n4, n5⟩ := RN.out.at_ (k := j) (by rw [HLK.out]; exact hjk)
          rw [HLK.out] at m1 n1
          generalize st9 (LL.getD j []) = T at m5 n5
          go_wp2_with fail
          go_quiet (fail)
          go_wp2_with fail
          go_roundw
          case rel => exact ⟨j + 1, by go_num, by omega, RM.out.on (below_drewN _ _), RN.out.on (below_drewN _ _), HB.out.trans ((below_drewN _ _).mono HB.out.size)⟩
          case measure => simp [intOf] <;> omega
        · obtain rfl : j = k := by omega
          have E := HB
          go_wp2_with fail
          refine (awake10 _).mono ?_; rintro e w4 ⟨rfl, hb⟩; replace E := Lib.hid (E.out.trans (hb.mono E.out.size)); clear hb
          go_wp2_with fail
          go_ret
          exact ⟨rfl, E.out⟩

end Go.Proofs.Ythpoplgejenpgaa
