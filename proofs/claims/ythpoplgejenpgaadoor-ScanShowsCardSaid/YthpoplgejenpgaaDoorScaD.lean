/-
  Contracts of layer 10, the fourth part: Lines and the document's.
-/
import Derived.Test.YthpoplgejenpgaaDoorScaC
set_option linter.unusedVariables false
set_option linter.unusedSimpArgs false
namespace Go.Proofs.YthpoplgejenpgaaDoor
open Go.RowKit

theorem strl_sub {l : List Nat} {c : Nat} (h : c ∈ strl l) : c ∈ l := by
  rw [strl_take] at h; exact List.mem_of_mem_take h
theorem hdl_sub {l : List Nat} {c : Nat} (h : c ∈ hdl l) : c ∈ l := by
  rw [hdl_take] at h; exact List.mem_of_mem_take h
theorem line_lt (s : ByteArray) (i : Nat) : ∀ c ∈ strl (hdl ((bs9 s).drop i)), c < 256 := fun c hc => bs9_lt s c (List.mem_of_mem_drop (hdl_sub (strl_sub hc)))
theorem linl_lt : ∀ (n : Nat) (l : List Nat), l.length ≤ n → (∀ c ∈ l, c < 256) → ∀ t ∈ linl l, ∀ c ∈ t, c < 256 := by
  intro n
  induction n with
  | zero => intro l h _ t ht; rw [List.eq_nil_of_length_eq_zero (Nat.le_zero.1 h), linl_nil] at ht; exact absurd ht List.not_mem_nil
  | succ n ih =>
    intro l h hl t ht
    by_cases h0 : l = []
    · rw [h0, linl_nil] at ht; exact absurd ht List.not_mem_nil
    · have h1 := List.length_pos_iff.2 h0
      rw [linl_cons h0] at ht
      rcases List.mem_cons.1 ht with rfl | ht
      · exact fun c hc => hl c (hdl_sub (strl_sub hc))
      · exact ih _ (by rw [List.length_drop]; omega) (fun c hc => hl c (List.mem_of_mem_drop hc)) t ht
/-- The lines of a text. -/
def lns (s : ByteArray) : List (List Nat) := linl (bs9 s)
theorem lns_lt (s : ByteArray) : ∀ t ∈ lns s, ∀ c ∈ t, c < 256 := linl_lt _ _ (Nat.le_refl _) (bs9_lt s)
theorem lns_len (s : ByteArray) : (lns s).length ≤ s.size := by rw [← bs9_len]; exact linl_len _
theorem below_grown {w0 w w' : World} {v : Value} {l : List (List Nat)} (h : Below w0.heap.size w0 w) (ho : OwnL w w0.heap.size v l) (hg : w.grownBy w' v.ownBlock) : Below w0.heap.size w0 w' :=
  h.grown hg h.size (fun g e => (World.ownsRow.lt ho g e).1)

set_option maxHeartbeats 4000000 in
set_option maxRecDepth 100000 in
theorem lines_any (s : ByteArray) (w : World) (hs : s.size ≤ 1000000) : Calls Tryd.prog 10 #[.string s] w (RetL w (lns s)) := by
  obtain ⟨i0, hi, hz0, hz1, hz2⟩ := info_parts10 info_line
  obtain ⟨G, hG⟩ : ∃ G, lns s = G := ⟨_, rfl⟩
  rw [hG]
  have HG0 := Lib.hid hG
  clear hG
  go_enter Tryd.func10, Tryd.ntmps10
  go_wp2_with fail
  refine (count_any s _ hs).mono ?_; rintro e w1 ⟨rfl, hb⟩
  have hcl := lns_len s
  obtain ⟨z, hz⟩ : ∃ z, (linl (bs9 s)).length = z := ⟨_, rfl⟩
  have hzl : z ≤ s.size := by rw [← hz]; exact hcl
  rw [hz]
  obtain ⟨w2, hmk, hown, hgr⟩ := run_make_own (P := Tryd.prog) w1 w.heap.size 29 32 i0 _ 2 Tryd.underlying29 hi hz0 hz1 .i64 .i64 z (by rw [hz2]; omega) (by unfold maxLen; omega) hb.size
  have HB0 : Hid (Below w.heap.size w w2) := hb.grown hgr hb.size (fun _ e => by cases e)
  have HO : Hid (OwnL w2 w.heap.size (.slice (some ⟨w1.heap.size, 0, none⟩) 0 z) []) := hown
  clear hcl hz hb hown hgr
  go_wp2_with fail
  clear hmk
  go_loopw [3, 4] (fun lv iv wr => ∃ (L : List (List Nat)) (i : Nat), OwnL wr w.heap.size lv L ∧ iv = .int .i64 i ∧ i ≤ s.size + 1 ∧ L.length ≤ i ∧ L ++ linl ((bs9 s).drop i) = G ∧ Below w.heap.size w wr) (fun _ iv _ => s.size + 1 - (intOf iv).toNat)
  case atStart => exact ⟨[], 0, HO.out, rfl, Nat.zero_le _, Nat.le_refl _, HG0.out, HB0.out⟩
  case round =>
    obtain ⟨L, i, hown, rfl, hi1, hL, hsp, hb⟩ := hrel
    obtain ⟨A, cp, rfl⟩ := hown.slen
    have HG := Lib.hid hsp
    have OW := Lib.hid hown
    have HB := Lib.hid hb
    clear hsp hown hb HO HB0
    rcases Nat.lt_or_ge i s.size with hlt | hge
    · have hkl := hd_le (Nat.le_of_lt hlt)
      have htl := line_lt s i
      have hst := lin_step hlt
      obtain ⟨T, hT⟩ : ∃ T, strl (hdl ((bs9 s).drop i)) = T := ⟨_, rfl⟩
      obtain ⟨h, hh⟩ : ∃ h, (hdl ((bs9 s).drop i)).length = h := ⟨_, rfl⟩
      obtain ⟨k, hk⟩ : ∃ k, i + h = k := ⟨_, rfl⟩
      have HTB : Hid (strl (((bs9 s).drop i).take (k - i)) = bs9 (st9 T)) := by
        show _ = _
        rw [bs9_st9 (by rw [← hT]; exact htl), show k - i = h by omega, ← hh, ← hdl_take, hT]
      have HK : Hid (i + (hdl ((bs9 s).drop i)).length = k) := by show _ = _; rw [hh, hk]
      have E : Hid ((L ++ [T]) ++ linl ((bs9 s).drop (k + 1)) = G) := by
        show _ = _
        rw [hT, hh, hk] at hst
        rw [List.append_assoc, ← HG.out, hst]; rfl
      rw [hh, hk] at hkl
      have hik : i ≤ k := by omega
      obtain ⟨Y, hY⟩ : ∃ Y, st9 T = Y := ⟨_, rfl⟩
      rw [hY] at HTB
      clear hT hh hk htl hst
      go_wp2_with fail
      refine (end_any s i _ (Nat.le_of_lt hlt) hs).mono ?_; rintro e w3 ⟨rfl, hb⟩
      rw [HK.out]
      replace HB := Lib.hid (HB.out.trans (hb.mono HB.out.size))
      replace OW := Lib.hid (OW.out.on hb)
      clear hb
      go_wp2_with fail
      refine (told_is hik hkl HTB.out hs).mono ?_; rintro e w4 ⟨rfl, hb⟩
      replace HB := Lib.hid (HB.out.trans (hb.mono HB.out.size))
      replace OW := Lib.hid (OW.out.on hb)
      clear hb
      obtain ⟨W9, hW9⟩ : ∃ v, World.alloc w4 (.cells #[.int .i64 ((L.length : Int) + 1), .string Y] 32) = v := ⟨_, rfl⟩
      have OW9 : Hid (OwnL W9 w.heap.size (.slice A L.length cp) L) := by rw [← hW9]; exact OW.out.on ((Below.refl _ _).alloc (Nat.le_refl _) _)
      have HB9 : Hid (Below w.heap.size w W9) := by rw [← hW9]; exact HB.out.alloc HB.out.size _
      have NEW : Hid (∀ j u, ([.int .i64 ((L.length + 1 : Nat) : Int), .string (st9 T)] : List Value)[j]? = some u → W9.cell? ((⟨w4.heap.size, 0, none⟩ : Addr).add j) = some u) := by
        show ∀ j u, _
        rw [← hW9, ← hY]
        exact line_new L.length T _
      have HL9 : Hid (L.length ≤ 1000000) := by show _ ≤ _; omega
      clear hY
      go_wp2_with (at_builtin; (try rw [hW9]); refine wpList_append_lies _ rfl (.tmp 16) (.tmp 25) 29 rfl w.heap.size 32 i0 (.agg #[.int .i64 0, .string ⟨#[]⟩]) 2 24 Tryd.underlying29 hi hz0 hz1 hz2 zcells2 (by decide) (.slice A L.length cp) L.length (row10 0 L) rfl OW9.out ⟨w4.heap.size, 0, none⟩ 1 1 [.int .i64 ((L.length + 1 : Nat) : Int), .string (st9 T)] rfl rfl NEW.out (by intro u hu; simp at hu; rcases hu with rfl | rfl <;> rfl) (by decide) (by have := HL9.out; unfold maxLen; omega) (by have := HL9.out; omega) HB9.out.size W9.heap.size rfl ?_; intro g4 cap4 w11 hown4 hgr4 hat4 hlt4; have OWB : Hid (OwnL w11 w.heap.size (.slice (some ⟨g4, 0, none⟩) (L.length + 1) cap4) (L ++ [T])) := (by show OwnL _ _ _ _; unfold OwnL; rw [List.length_append, row10_push, Nat.zero_add]; exact hown4); have HBB : Hid (Below w.heap.size w w11) := below_grown HB9.out OW9.out hgr4; clear hown4 hgr4 hat4 hlt4)
      go_round
      case rel => exact ⟨L ++ [T], k + 1, OWB.out, by go_num, by omega, by rw [List.length_append]; simp; omega, E.out, HBB.out⟩
      case measure => simp [intOf]; omega
    · have E : Hid (L = G) := by show _ = _; rw [← HG.out, lin_end hge, List.append_nil]
      have hg2 : (s.size : Int) ≤ (i : Int) := by omega
      go_wp2_with fail
      go_ret
      exact ⟨_, rfl, by rw [← E.out]; exact OW.out, HB.out⟩

end Go.Proofs.YthpoplgejenpgaaDoor
