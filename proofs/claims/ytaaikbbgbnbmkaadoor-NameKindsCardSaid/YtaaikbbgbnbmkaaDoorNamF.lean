/-
  Contracts of layer 11: the document's Parts.
-/
import Derived.Test.YtaaikbbgbnbmkaaDoorNamE
set_option linter.unusedVariables false
set_option linter.unusedSimpArgs false
namespace Go.Proofs.YtaaikbbgbnbmkaaDoor
open Go.RowKit

/-- How far the parts are known: L are known, the part that begins at a has no colon up to i. -/
def PS (l : List Nat) (G : List (List Nat)) (a i : Nat) (L : List (List Nat)) : Prop := (i ≤ l.length ∧ a ≤ i ∧ G = L ++ prt (l.drop a) ∧ 58 ∉ (l.drop a).take (i - a)) ∨ (i = l.length + 1 ∧ G = L)
theorem PS.start (l : List Nat) : PS l (prt l) 0 0 [] := .inl ⟨Nat.zero_le _, Nat.le_refl _, rfl, by rw [Nat.sub_self, List.take_zero]; exact List.not_mem_nil⟩
theorem drop_at {l : List Nat} {a i x : Nat} (ha : a ≤ i) (h : l[i]? = some x) : l.drop a = (l.drop a).take (i - a) ++ x :: l.drop (i + 1) := by
  have hil := (List.getElem?_eq_some_iff.1 h).1
  have e : (l.drop a).drop (i - a) = x :: l.drop (i + 1) := by
    rw [List.drop_drop, show a + (i - a) = i by omega, List.drop_eq_getElem_cons hil]
    congr 1
    exact (List.getElem?_eq_some_iff.1 h).2
  rw [← e, List.take_append_drop]
theorem PS.colon {l : List Nat} {G L : List (List Nat)} {a i : Nat} (hi : i < l.length) (h : PS l G a i L) (hx : l[i]? = some 58) : PS l G (i + 1) (i + 1) (L ++ [(l.drop a).take (i - a)]) := by
  rcases h with ⟨h1, h2, h3, h4⟩ | ⟨h1, _⟩
  · refine .inl ⟨hi, Nat.le_refl _, ?_, by rw [Nat.sub_self, List.take_zero]; exact List.not_mem_nil⟩
    rw [h3, List.append_assoc]
    congr 1
    conv => lhs; rw [drop_at h2 hx]
    rw [prt_at h4]; rfl
  · omega
theorem PS.byte {l : List Nat} {G L : List (List Nat)} {a i x : Nat} (hi : i < l.length) (h : PS l G a i L) (hx : l[i]? = some x) (hn : x ≠ 58) : PS l G a (i + 1) L := by
  rcases h with ⟨h1, h2, h3, h4⟩ | ⟨h1, _⟩
  · refine .inl ⟨hi, by omega, h3, ?_⟩
    rw [show i + 1 - a = (i - a) + 1 by omega, List.take_add_one, List.getElem?_drop, show a + (i - a) = i by omega, hx]
    intro e
    rcases List.mem_append.1 e with e | e
    · exact h4 e
    · exact hn (List.mem_singleton.1 e).symm
  · omega
theorem PS.last {l : List Nat} {G L : List (List Nat)} {a i : Nat} (hi : i = l.length) (h : PS l G a i L) : a ≤ i ∧ PS l G (i + 1) (i + 1) (L ++ [(l.drop a).take (i - a)]) := by
  rcases h with ⟨h1, h2, h3, h4⟩ | ⟨h1, _⟩
  · have e : (l.drop a).take (i - a) = l.drop a := List.take_of_length_le (by rw [List.length_drop]; omega)
    rw [e] at h4 ⊢
    exact ⟨h2, .inr ⟨by omega, by rw [h3, prt_no h4]⟩⟩
  · omega
theorem PS.ended {l : List Nat} {G L : List (List Nat)} {a i : Nat} (hi : l.length < i) (h : PS l G a i L) : i = l.length + 1 ∧ G = L := by
  rcases h with ⟨h1, _⟩ | h
  · omega
  · exact h
theorem PS.le {l : List Nat} {G L : List (List Nat)} {a i : Nat} (hi : i ≤ l.length) (h : PS l G a i L) : a ≤ i := by
  rcases h with ⟨_, h2, _⟩ | ⟨h1, _⟩ <;> omega

set_option maxHeartbeats 4000000 in
set_option maxRecDepth 100000 in
theorem refparts_any (s : ByteArray) (w : World) (hs : s.size ≤ 1000000) : Calls Tryd.prog 9 #[.string s] w (RetP w (prt (bs9 s))) := by
  obtain ⟨i0, hi0, hz0, hz1, hz2⟩ := info_parts11 info_txt
  obtain ⟨G, hG⟩ : ∃ G, prt (bs9 s) = G := ⟨_, rfl⟩
  have HP : Hid (PS (bs9 s) G 0 0 []) := by have := PS.start (bs9 s); rwa [hG] at this
  rw [hG]
  clear hG
  go_enter Tryd.func9, Tryd.ntmps9
  go_wp2_with fail
  go_loopw [3, 4, 5] (fun ov av iv wr => ∃ (a i : Nat) (L : List (List Nat)), av = .int .i64 a ∧ iv = .int .i64 i ∧ i ≤ s.size + 1 ∧ L.length ≤ i ∧ OwnP wr w.heap.size ov L ∧ PS (bs9 s) G a i L ∧ Below w.heap.size w wr) (fun _ _ iv _ => s.size + 1 - (intOf iv).toNat)
  case atStart => exact ⟨0, 0, [], rfl, rfl, Nat.zero_le _, Nat.le_refl _, OwnP.start _ _, HP.out, Below.refl _ _⟩
  case round =>
    obtain ⟨a, i, L, rfl, rfl, hi, hL, hown, hps, hb⟩ := hrel
    have OW := Lib.hid hown
    have HB := Lib.hid hb
    have PSI := Lib.hid hps
    clear hown hps hb HP
    have hl : (bs9 s).length = s.size := bs9_len s
    have HLN := Lib.hid hl
    clear hl
    obtain ⟨A2, c2, hmv⟩ := OW.out.slen
    subst hmv
    rcases Nat.lt_or_ge s.size i with hgt | hle
    · obtain ⟨e1, e2⟩ := PS.ended (by rw [HLN.out]; exact hgt) PSI.out
      have E := Lib.hid e2
      clear e1 e2
      go_wp2_with fail
      go_ret
      obtain ⟨A, c, hv, hr⟩ := OW.out.rd
      injection hv with v1 v2 v3
      subst v1; subst v3
      exact ⟨_, _, by rw [E.out]; rfl, by rw [E.out]; exact hr, HB.out⟩
    · have ha : a ≤ i := PS.le (by rw [HLN.out]; exact hle) PSI.out
      obtain ⟨X, hX⟩ : ∃ X, s.extract a i = X := ⟨_, rfl⟩
      have hsl : ∀ w', (Instr.slice 9 (.string s) (some (.int .i64 (a : Int))) (some (.int .i64 (i : Int))) none).run Tryd.prog w' = .ok (.string X) w' := sl_both ha hle hX
      have HXB : Hid (bs9 X = ((bs9 s).drop a).take (i - a)) := by show _ = _; rw [← hX, bs9_extract]
      obtain ⟨W9, hW9⟩ : ∃ v, World.alloc wr (.cells #[.string X] 9) = v := ⟨_, rfl⟩
      have OW9 : Hid (OwnP W9 w.heap.size (.slice A2 L.length c2) L) := by rw [← hW9]; exact OW.out.on ((Below.refl _ _).alloc (Nat.le_refl _) _)
      have HB9 : Hid (Below w.heap.size w W9) := by rw [← hW9]; exact HB.out.alloc HB.out.size _
      have NEW : Hid (∀ j u, ([.string X] : List Value)[j]? = some u → W9.cell? ((⟨wr.heap.size, 0, none⟩ : Addr).add j) = some u) := by
        show ∀ j u, _
        rw [← hW9]; exact txt_new X _
      have HXS : Hid (row11 (L ++ [bs9 X]) = row11 L ++ [.string X]) := by show _ = _; rw [row11_push, st9_bs9]
      clear hX
      rcases Nat.lt_or_ge i s.size with hlt | hge
      · obtain ⟨x, hx⟩ : ∃ x, x = (s[i]'hlt).toNat := ⟨_, rfl⟩
        have ex : ((s[i]'hlt).toNat : Int) = (x : Int) := by rw [hx]
        have HX : Hid ((bs9 s)[i]? = some x) := by show _ = _; rw [bs9_at s i hlt, hx]
        clear hx
        have d1 : ((i : Int) == (s.size : Int)) = false := by rw [beq_eq_false_iff_ne]; omega
        by_cases h58 : x = 58
        · have d2 : ((x : Int) == 58) = true := by rw [h58]; rfl
          have HPN : Hid (PS (bs9 s) G (i + 1) (i + 1) (L ++ [bs9 X])) := by
            show PS _ _ _ _ _
            rw [HXB.out]; exact PS.colon (by rw [HLN.out]; exact hlt) PSI.out (by rw [HX.out, h58])
          clear h58
          go_wp2_with (at_builtin; (try rw [hW9]); refine wpList_append_lies _ rfl (.tmp 22) (.tmp 27) 23 rfl w.heap.size 9 i0 (.string ⟨#[]⟩) 1 16 Tryd.underlying23 hi0 hz0 hz1 hz2 zcells1 (by decide) (.slice A2 L.length c2) L.length (row11 L) rfl OW9.out ⟨wr.heap.size, 0, none⟩ 1 1 [.string X] rfl rfl NEW.out (by intro u hu; simp at hu; subst hu; rfl) (by decide) (by unfold maxLen; omega) (by omega) HB9.out.size W9.heap.size rfl ?_; intro g4 cap4 w11 hown4 hgr4 hat4 hlt4; have OWB : Hid (OwnP w11 w.heap.size (.slice (some ⟨g4, 0, none⟩) (L.length + 1) cap4) (L ++ [bs9 X])) := (by show OwnP _ _ _ _; unfold OwnP; rw [List.length_append, HXS.out]; exact hown4); have HBB : Hid (Below w.heap.size w w11) := below_grown HB9.out OW9.out hgr4; clear hown4 hgr4 hat4 hlt4)
          go_roundw
          case rel => exact ⟨i + 1, i + 1, L ++ [bs9 X], by go_num, by go_num, by omega, by simp; omega, by exact OWB.out, HPN.out, HBB.out⟩
          case measure => simp [intOf] <;> omega
        · have d2 : ((x : Int) == 58) = false := by rw [beq_eq_false_iff_ne]; omega
          have HPN : Hid (PS (bs9 s) G a (i + 1) L) := PS.byte (by rw [HLN.out]; exact hlt) PSI.out HX.out h58
          clear h58
          go_wp2_with fail
          go_roundw
          case rel => exact ⟨a, i + 1, L, rfl, by go_num, by omega, by omega, OW.out, HPN.out, HB.out⟩
          case measure => simp [intOf] <;> omega
      · obtain rfl : i = s.size := by omega
        have HPN : Hid (PS (bs9 s) G (s.size + 1) (s.size + 1) (L ++ [bs9 X])) := by
          show PS _ _ _ _ _
          rw [HXB.out]; exact (PS.last HLN.out.symm PSI.out).2
        go_wp2_with (at_builtin; (try rw [hW9]); refine wpList_append_lies _ rfl (.tmp 22) (.tmp 27) 23 rfl w.heap.size 9 i0 (.string ⟨#[]⟩) 1 16 Tryd.underlying23 hi0 hz0 hz1 hz2 zcells1 (by decide) (.slice A2 L.length c2) L.length (row11 L) rfl OW9.out ⟨wr.heap.size, 0, none⟩ 1 1 [.string X] rfl rfl NEW.out (by intro u hu; simp at hu; subst hu; rfl) (by decide) (by unfold maxLen; omega) (by omega) HB9.out.size W9.heap.size rfl ?_; intro g4 cap4 w11 hown4 hgr4 hat4 hlt4; have OWB : Hid (OwnP w11 w.heap.size (.slice (some ⟨g4, 0, none⟩) (L.length + 1) cap4) (L ++ [bs9 X])) := (by show OwnP _ _ _ _; unfold OwnP; rw [List.length_append, HXS.out]; exact hown4); have HBB : Hid (Below w.heap.size w w11) := below_grown HB9.out OW9.out hgr4; clear hown4 hgr4 hat4 hlt4)
        go_roundw
        case rel => exact ⟨s.size + 1, s.size + 1, L ++ [bs9 X], by go_num, by go_num, by omega, by simp; omega, by exact OWB.out, HPN.out, HBB.out⟩
        case measure => simp [intOf] <;> omega

end Go.Proofs.YtaaikbbgbnbmkaaDoor
