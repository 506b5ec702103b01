/-
  Contracts of layer 8, the fourteenth part: the document's Split.
-/
import Derived.Test.YtnndamhilbcdfaaDoorDatY
set_option linter.unusedVariables false
set_option linter.unusedSimpArgs false
set_option linter.unusedVariables false
set_option linter.unusedSimpArgs false
namespace Go.Proofs.YtnndamhilbcdfaaDoor
open Go.RowKit

theorem refcmp_is {y m d y' m' d' z : Int} {w : World} (hT : Tabs w) (hz : cmp8 y m d y' m' d' = z) : Calls Tryd.prog 22 #[.agg #[.int .i64 y, .int .i64 m, .int .i64 d], .agg #[.int .i64 y', .int .i64 m', .int .i64 d']] w (Ret8 w (.int .i64 z)) := by
  subst hz; exact refcmp_any y m d y' m' d' w hT
/-- What is still to come from f on. -/
def rem8 (k : Nat) (f t : D3) : List D6 := if cmp8 f.1 f.2.1 f.2.2 t.1 t.2.1 t.2.2 = 1 then [] else spl8 k f t
theorem rem8_past {k : Nat} {f t : D3} (h : cmp8 f.1 f.2.1 f.2.2 t.1 t.2.1 t.2.2 = 1) : rem8 k f t = [] := if_pos h
theorem rem8_on {k : Nat} {f t : D3} (h : cmp8 f.1 f.2.1 f.2.2 t.1 t.2.1 t.2.2 ≤ 0) : rem8 k f t = spl8 k f t := if_neg (by omega)

set_option maxHeartbeats 4000000 in
set_option maxRecDepth 100000 in
theorem refsplit_no0 (y m d y' m' d' : Int) (hr : ok8 y m d = false)  (w : World) (hT : Tabs w) : Calls Tryd.prog 38 #[.agg #[.int .i64 y, .int .i64 m, .int .i64 d], .agg #[.int .i64 y', .int .i64 m', .int .i64 d']] w (RetRow8 w []) := by
  have HT := Lib.hid hT
  clear hT
  have HR := Lib.hid hr
  clear hr
  go_enter Tryd.func38, Tryd.ntmps38
  go_wp2_with fail
  generalize hW : World.alloc (World.alloc w _) _ = W0
  have E0 : S8 w W0 [(w.heap.size + 1, .int .i64 y', .int .i64 m', .int .i64 d'), (w.heap.size, .int .i64 y, .int .i64 m, .int .i64 d)] := by rw [← hW]; exact (((S8.start w HT.out).lay rfl).lay (by simp))
  have E := Lib.hid E0
  clear hW E0
  go_loopw [5] (fun pv wr => pv = .slice none 0 0 ∧ S8 w wr [(w.heap.size + 1, .int .i64 y', .int .i64 m', .int .i64 d'), (w.heap.size, .int .i64 y, .int .i64 m, .int .i64 d)]) (fun _ _ => 0)
  case atStart => exact ⟨rfl, E.out⟩
  case round =>
    obtain ⟨rfl, hE⟩ := hrel
    clear E
    have E := Lib.hid hE
    clear hE
    obtain ⟨p0, p1, p2, pf0, pf1, pf2, plt⟩ := (S8.at_ (x0 := .int .i64 y') (x1 := .int .i64 m') (x2 := .int .i64 d') (g := w.heap.size + 1) E (by simp))
    obtain ⟨q0, q1, q2, qf0, qf1, qf2, qlt⟩ := (S8.at_ (x0 := .int .i64 y) (x1 := .int .i64 m) (x2 := .int .i64 d) (g := w.heap.size) E (by simp))
    go_wp2_with fail
    refine (refright_is E.out.tab HR.out).mono ?_; rintro e w1 ⟨rfl, hb⟩; replace E := Lib.hid (S8.step E.out hb); clear hb
    clear p0 p1 p2 pf0 pf1 pf2 plt q0 q1 q2 qf0 qf1 qf2 qlt
    obtain ⟨p0, p1, p2, pf0, pf1, pf2, plt⟩ := (S8.at_ (x0 := .int .i64 y') (x1 := .int .i64 m') (x2 := .int .i64 d') (g := w.heap.size + 1) E (by simp))
    obtain ⟨q0, q1, q2, qf0, qf1, qf2, qlt⟩ := (S8.at_ (x0 := .int .i64 y) (x1 := .int .i64 m) (x2 := .int .i64 d) (g := w.heap.size) E (by simp))
    go_wp2_with fail
    go_ret
    exact ⟨_, rfl, Own8.start _ _, E.out.bel⟩

set_option maxHeartbeats 4000000 in
set_option maxRecDepth 100000 in
theorem refsplit_no1 (y m d y' m' d' : Int) (hr : ok8 y m d = true) (hr' : ok8 y' m' d' = false)  (w : World) (hT : Tabs w) : Calls Tryd.prog 38 #[.agg #[.int .i64 y, .int .i64 m, .int .i64 d], .agg #[.int .i64 y', .int .i64 m', .int .i64 d']] w (RetRow8 w []) := by
  have HT := Lib.hid hT
  clear hT
  have HR := Lib.hid hr
  clear hr
  have HR' := Lib.hid hr'
  clear hr'
  go_enter Tryd.func38, Tryd.ntmps38
  go_wp2_with fail
  generalize hW : World.alloc (World.alloc w _) _ = W0
  have E0 : S8 w W0 [(w.heap.size + 1, .int .i64 y', .int .i64 m', .int .i64 d'), (w.heap.size, .int .i64 y, .int .i64 m, .int .i64 d)] := by rw [← hW]; exact (((S8.start w HT.out).lay rfl).lay (by simp))
  have E := Lib.hid E0
  clear hW E0
  go_loopw [5] (fun pv wr => pv = .slice none 0 0 ∧ S8 w wr [(w.heap.size + 1, .int .i64 y', .int .i64 m', .int .i64 d'), (w.heap.size, .int .i64 y, .int .i64 m, .int .i64 d)]) (fun _ _ => 0)
  case atStart => exact ⟨rfl, E.out⟩
  case round =>
    obtain ⟨rfl, hE⟩ := hrel
    clear E
    have E := Lib.hid hE
    clear hE
    obtain ⟨p0, p1, p2, pf0, pf1, pf2, plt⟩ := (S8.at_ (x0 := .int .i64 y') (x1 := .int .i64 m') (x2 := .int .i64 d') (g := w.heap.size + 1) E (by simp))
    obtain ⟨q0, q1, q2, qf0, qf1, qf2, qlt⟩ := (S8.at_ (x0 := .int .i64 y) (x1 := .int .i64 m) (x2 := .int .i64 d) (g := w.heap.size) E (by simp))
    go_wp2_with fail
    refine (refright_is E.out.tab HR.out).mono ?_; rintro e w1 ⟨rfl, hb⟩; replace E := Lib.hid (S8.step E.out hb); clear hb
    clear p0 p1 p2 pf0 pf1 pf2 plt q0 q1 q2 qf0 qf1 qf2 qlt
    obtain ⟨p0, p1, p2, pf0, pf1, pf2, plt⟩ := (S8.at_ (x0 := .int .i64 y') (x1 := .int .i64 m') (x2 := .int .i64 d') (g := w.heap.size + 1) E (by simp))
    obtain ⟨q0, q1, q2, qf0, qf1, qf2, qlt⟩ := (S8.at_ (x0 := .int .i64 y) (x1 := .int .i64 m) (x2 := .int .i64 d) (g := w.heap.size) E (by simp))
    go_wp2_with fail
    refine (refright_is E.out.tab HR'.out).mono ?_; rintro e w2 ⟨rfl, hb⟩; replace E := Lib.hid (S8.step E.out hb); clear hb
    clear p0 p1 p2 pf0 pf1 pf2 plt q0 q1 q2 qf0 qf1 qf2 qlt
    go_wp2_with fail
    go_ret
    exact ⟨_, rfl, Own8.start _ _, E.out.bel⟩

set_option maxHeartbeats 4000000 in
set_option maxRecDepth 100000 in
theorem refsplit_yes (y m d y' m' d' : Int) (hr : ok8 y m d = true) (hr' : ok8 y' m' d' = true)  (w : World) (hT : Tabs w) : Calls Tryd.prog 38 #[.agg #[.int .i64 y, .int .i64 m, .int .i64 d], .agg #[.int .i64 y', .int .i64 m', .int .i64 d']] w (RetRow8 w (rem8 1200 (y, m, d) (y', m', d'))) := by
  have HT := Lib.hid hT
  clear hT
  obtain ⟨i0, hi, hz0, hz1, hz2⟩ := info_parts8 info_two
  obtain ⟨G, hG⟩ : ∃ G, rem8 1200 (y, m, d) (y', m', d') = G := ⟨_, rfl⟩
  rw [hG]
  have HG := Lib.hid hG
  have HR := Lib.hid hr
  have HR' := Lib.hid hr'
  clear hr hr' hG
  go_enter Tryd.func38, Tryd.ntmps38
  go_wp2_with fail
  generalize hW : World.alloc (World.alloc w _) _ = W0
  have E0 : S8 w W0 [(w.heap.size + 1, .int .i64 y', .int .i64 m', .int .i64 d'), (w.heap.size, .int .i64 y, .int .i64 m, .int .i64 d)] := by rw [← hW]; exact (((S8.start w HT.out).lay rfl).lay (by simp))
  have E := Lib.hid E0
  clear hW E0
  obtain ⟨base, hbase⟩ : ∃ base, W0.heap.size = base := ⟨_, rfl⟩
  have hb1 : w.heap.size + 1 < base := by have := ((S8.at_ (x0 := .int .i64 y') (x1 := .int .i64 m') (x2 := .int .i64 d') (g := w.heap.size + 1) E (by simp))).lt; omega
  have HBA := Lib.hid hbase
  clear hbase
  go_loopw [5] (fun pv wr => ∃ (a b c : Int) (L : List D6), Own8 wr base pv L ∧ L.length ≤ 1200 ∧ L ++ rem8 (1200 - L.length) (a, b, c) (y', m', d') = G ∧ ok8 a b c = true ∧ AtL8 base wr ∧ S8 w wr [(w.heap.size, .int .i64 a, .int .i64 b, .int .i64 c), (w.heap.size + 1, .int .i64 y', .int .i64 m', .int .i64 d')]) (fun pv _ => 1200 - slen8 pv)
  case atStart => exact ⟨y, m, d, [], Own8.start _ _, by simp, HG.out, HR.out, by show _ ≤ _; rw [HBA.out]; exact Nat.le_refl _, S8.sub E.out (fun q hq => by simp at hq ⊢; rcases hq with rfl | rfl <;> simp)⟩
  case round =>
    obtain ⟨a, b, c, L, hown, hlen, hsp, hok, hbw, hE⟩ := hrel
    obtain ⟨hsl, A, cp, rfl⟩ := hown.slen
    clear E
    have E := Lib.hid hE
    have OW := Lib.hid hown
    have SPL := Lib.hid hsp
    have OK := Lib.hid hok
    have HSL := Lib.hid hsl
    have BW := Lib.hid hbw
    clear hE hown hsp hok hsl hbw
    have le : (L.length : Int) ≤ 1200 := by omega
    obtain ⟨z, hz⟩ : ∃ z, cmp8 a b c y' m' d' = z := ⟨_, rfl⟩
    have hz3 := cmp8_three a b c y' m' d'
    rw [hz] at hz3
    have HZ := Lib.hid hz
    clear hz
    by_cases hzp : z = 1
    ·
      have hzle : 0 < z := by omega
      have HZP := Lib.hid hzp
      clear hzp hz3
      obtain ⟨p0, p1, p2, pf0, pf1, pf2, plt⟩ := (S8.at_ (x0 := .int .i64 a) (x1 := .int .i64 b) (x2 := .int .i64 c) (g := w.heap.size) E (by simp))
      obtain ⟨q0, q1, q2, qf0, qf1, qf2, qlt⟩ := (S8.at_ (x0 := .int .i64 y') (x1 := .int .i64 m') (x2 := .int .i64 d') (g := w.heap.size + 1) E (by simp))
      go_wp2_with fail
      refine (refright_is E.out.tab OK.out).mono ?_; rintro e w1 ⟨rfl, hb⟩; replace E := Lib.hid (S8.step E.out hb); replace OW := Lib.hid (OW.out.on hb); replace BW := Lib.hid (BW.out.on hb); clear hb
      clear p0 p1 p2 pf0 pf1 pf2 plt q0 q1 q2 qf0 qf1 qf2 qlt
      obtain ⟨p0, p1, p2, pf0, pf1, pf2, plt⟩ := (S8.at_ (x0 := .int .i64 a) (x1 := .int .i64 b) (x2 := .int .i64 c) (g := w.heap.size) E (by simp))
      obtain ⟨q0, q1, q2, qf0, qf1, qf2, qlt⟩ := (S8.at_ (x0 := .int .i64 y') (x1 := .int .i64 m') (x2 := .int .i64 d') (g := w.heap.size + 1) E (by simp))
      go_wp2_with fail
      refine (refright_is E.out.tab HR'.out).mono ?_; rintro e w2 ⟨rfl, hb⟩; replace E := Lib.hid (S8.step E.out hb); replace OW := Lib.hid (OW.out.on hb); replace BW := Lib.hid (BW.out.on hb); clear hb
      clear p0 p1 p2 pf0 pf1 pf2 plt q0 q1 q2 qf0 qf1 qf2 qlt
      obtain ⟨p0, p1, p2, pf0, pf1, pf2, plt⟩ := (S8.at_ (x0 := .int .i64 a) (x1 := .int .i64 b) (x2 := .int .i64 c) (g := w.heap.size) E (by simp))
      obtain ⟨q0, q1, q2, qf0, qf1, qf2, qlt⟩ := (S8.at_ (x0 := .int .i64 y') (x1 := .int .i64 m') (x2 := .int .i64 d') (g := w.heap.size + 1) E (by simp))
      go_wp2_with fail
      refine (refcmp_is E.out.tab HZ.out).mono ?_; rintro e w3 ⟨rfl, hb⟩; replace E := Lib.hid (S8.step E.out hb); replace OW := Lib.hid (OW.out.on hb); replace BW := Lib.hid (BW.out.on hb); clear hb
      clear p0 p1 p2 pf0 pf1 pf2 plt q0 q1 q2 qf0 qf1 qf2 qlt
      go_wp2_with fail
      go_ret
      exact ⟨_, rfl, by have h2 := SPL.out; rw [rem8_past (f := (a, b, c)) (t := (y', m', d')) (by rw [HZ.out, HZP.out]), List.append_nil] at h2; rw [← h2]; exact Own8.mono (base' := w.heap.size) OW.out (by omega), E.out.bel⟩
    ·
      have hzle : z ≤ 0 := by omega
      clear hz3 hzp
      have LE : Hid (cmp8 a b c y' m' d' ≤ 0) := by show _ ≤ _; rw [HZ.out]; exact hzle
      by_cases hk : L.length < 1200
      ·
        have hki : (L.length : Int) < 1200 := by omega
        obtain ⟨q, hq⟩ : ∃ q, 1200 - L.length = q + 1 := ⟨1200 - L.length - 1, by omega⟩
        obtain ⟨N, hN⟩ : ∃ N, len8 a b = N := ⟨_, rfl⟩
        have HN := Lib.hid hN
        have HEND : Hid (end8 a b c = (a, b, N)) := by show _ = _; rw [end8_ok OK.out, hN]
        clear hN
        have SP2 : Hid (L ++ spl8 (q + 1) (a, b, c) (y', m', d') = G) := by show _ = _; rw [← hq, ← rem8_on (f := (a, b, c)) (t := (y', m', d')) LE.out]; exact SPL.out
        by_cases hs : a = y' ∧ b = m'
        ·
          obtain ⟨ha, hb⟩ := hs
          subst ha; subst hb
          have hdn : d' ≤ N := by have := ok8_iff.1 HR'.out; have := HN.out; omega
          by_cases hd : d' < N
          ·
            have HCE : Hid (cmp8 a b N a b d' = 1) := by show _ = _; rw [cmp8_pos]; omega
            clear hd
            obtain ⟨p0, p1, p2, pf0, pf1, pf2, plt⟩ := (S8.at_ (x0 := .int .i64 a) (x1 := .int .i64 b) (x2 := .int .i64 c) (g := w.heap.size) E (by simp))
            obtain ⟨q0, q1, q2, qf0, qf1, qf2, qlt⟩ := (S8.at_ (x0 := .int .i64 a) (x1 := .int .i64 b) (x2 := .int .i64 d') (g := w.heap.size + 1) E (by simp))
            go_wp2_with fail
            refine (refright_is E.out.tab OK.out).mono ?_; rintro e w4 ⟨rfl, hb⟩; replace E := Lib.hid (S8.step E.out hb); replace OW := Lib.hid (OW.out.on hb); replace BW := Lib.hid (BW.out.on hb); clear hb
            clear p0 p1 p2 pf0 pf1 pf2 plt q0 q1 q2 qf0 qf1 qf2 qlt
            obtain ⟨p0, p1, p2, pf0, pf1, pf2, plt⟩ := (S8.at_ (x0 := .int .i64 a) (x1 := .int .i64 b) (x2 := .int .i64 c) (g := w.heap.size) E (by simp))
            obtain ⟨q0, q1, q2, qf0, qf1, qf2, qlt⟩ := (S8.at_ (x0 := .int .i64 a) (x1 := .int .i64 b) (x2 := .int .i64 d') (g := w.heap.size + 1) E (by simp))
            go_wp2_with fail
            refine (refright_is E.out.tab HR'.out).mono ?_; rintro e w5 ⟨rfl, hb⟩; replace E := Lib.hid (S8.step E.out hb); replace OW := Lib.hid (OW.out.on hb); replace BW := Lib.hid (BW.out.on hb); clear hb
            clear p0 p1 p2 pf0 pf1 pf2 plt q0 q1 q2 qf0 qf1 qf2 qlt
            obtain ⟨p0, p1, p2, pf0, pf1, pf2, plt⟩ := (S8.at_ (x0 := .int .i64 a) (x1 := .int .i64 b) (x2 := .int .i64 c) (g := w.heap.size) E (by simp))
            obtain ⟨q0, q1, q2, qf0, qf1, qf2, qlt⟩ := (S8.at_ (x0 := .int .i64 a) (x1 := .int .i64 b) (x2 := .int .i64 d') (g := w.heap.size + 1) E (by simp))
            go_wp2_with fail
            refine (refcmp_is E.out.tab HZ.out).mono ?_; rintro e w6 ⟨rfl, hb⟩; replace E := Lib.hid (S8.step E.out hb); replace OW := Lib.hid (OW.out.on hb); replace BW := Lib.hid (BW.out.on hb); clear hb
            clear p0 p1 p2 pf0 pf1 pf2 plt q0 q1 q2 qf0 qf1 qf2 qlt
            obtain ⟨p0, p1, p2, pf0, pf1, pf2, plt⟩ := (S8.at_ (x0 := .int .i64 a) (x1 := .int .i64 b) (x2 := .int .i64 c) (g := w.heap.size) E (by simp))
            go_wp2_with fail
            refine (refMonthEnd_is E.out.tab HEND.out).mono ?_; rintro e w7 ⟨rfl, hb⟩; replace E := Lib.hid (S8.step E.out hb); replace OW := Lib.hid (OW.out.on hb); replace BW := Lib.hid (BW.out.on hb); clear hb
            have HOG : Hid (∀ g, (Value.slice A L.length cp).ownBlock = some g → base ≤ g ∧ g < w7.heap.size) := fun g e => World.ownsRow.lt OW.out g e
            have hew : w.heap.size + 1 < w7.heap.size := ((S8.at_ (x0 := .int .i64 a) (x1 := .int .i64 b) (x2 := .int .i64 d') (g := w.heap.size + 1) E (by simp))).lt
            clear p0 p1 p2 pf0 pf1 pf2 plt
            obtain ⟨q0, q1, q2, qf0, qf1, qf2, qlt⟩ := (S8.at_ (x0 := .int .i64 a) (x1 := .int .i64 b) (x2 := .int .i64 d') (g := w.heap.size + 1) E (by simp))
            go_wp2_with fail
            clear q0 q1 q2 qf0 qf1 qf2 qlt
            replace E := Lib.hid (S8.lay (t := 23) (x0 := .int .i64 a) (x1 := .int .i64 b) (x2 := .int .i64 N) (g := w7.heap.size) E.out rfl)
            replace OW := Lib.hid (OW.out.on ((Below.refl _ _).alloc (Nat.le_refl _) (.cells #[.int .i64 a, .int .i64 b, .int .i64 N] 23)))
            replace BW := Lib.hid (BW.out.on ((Below.refl _ _).alloc (Nat.le_refl _) (.cells #[.int .i64 a, .int .i64 b, .int .i64 N] 23)))
            generalize hW2 : World.alloc w7 _ = V1 at E OW BW ⊢
            clear hW2
            refine (refcmp_is E.out.tab HCE.out).mono ?_; rintro e w8 ⟨rfl, hb⟩; replace E := Lib.hid (S8.step E.out hb); replace OW := Lib.hid (OW.out.on hb); replace BW := Lib.hid (BW.out.on hb); clear hb
            have hV : w7.heap.size < w8.heap.size := ((S8.at_ (x0 := .int .i64 a) (x1 := .int .i64 b) (x2 := .int .i64 N) (g := w7.heap.size) E (by simp))).lt
            obtain ⟨WP, hWP⟩ : ∃ v, put8 w8 w7.heap.size (.int .i64 a) (.int .i64 b) (.int .i64 d') = v := ⟨_, rfl⟩
            obtain ⟨W9, hW9⟩ : ∃ v, World.alloc (put8 w8 w7.heap.size (.int .i64 a) (.int .i64 b) (.int .i64 d')) (.cells #[.int .i64 a, .int .i64 b, .int .i64 c, .int .i64 a, .int .i64 b, .int .i64 d'] 44) = v := ⟨_, rfl⟩
            have OWP : Hid (Own8 WP base (.slice A L.length cp) L) := by
              rw [← hWP]
              exact OW.out.apart (fun g e => by have := HOG.out g e; omega) _ _ _
            have EP : Hid (S8 w WP [(w7.heap.size, .int .i64 a, .int .i64 b, .int .i64 d'), (w.heap.size + 1, .int .i64 a, .int .i64 b, .int .i64 d'), (w.heap.size, .int .i64 a, .int .i64 b, .int .i64 c)]) := by
              rw [← hWP]
              exact S8.store E.out (g := w7.heap.size) (x0 := .int .i64 a) (x1 := .int .i64 b) (x2 := .int .i64 N) (by simp) (by omega) _ (fun q hq => by simp at hq ⊢; rcases hq with rfl | rfl <;> simp <;> omega) _ _ _ (fun w_ hb => HT.out.on hb)
            have hW9b : World.alloc WP (.cells #[.int .i64 a, .int .i64 b, .int .i64 c, .int .i64 a, .int .i64 b, .int .i64 d'] 44) = W9 := by rw [← hWP]; exact hW9
            have hPS : WP.heap.size = w8.heap.size := by rw [← hWP]; simp
            have OW9 : Hid (Own8 W9 base (.slice A L.length cp) L) := by rw [← hW9b]; exact OWP.out.on ((Below.refl _ _).alloc (Nat.le_refl _) _)
            have E9 : Hid (S8 w W9 [(w7.heap.size, .int .i64 a, .int .i64 b, .int .i64 d'), (w.heap.size + 1, .int .i64 a, .int .i64 b, .int .i64 d'), (w.heap.size, .int .i64 a, .int .i64 b, .int .i64 c)]) := by rw [← hW9b]; exact S8.sub (S8.alloc EP.out _) (fun q hq => by simp at hq ⊢; rcases hq with rfl | rfl | rfl <;> simp)
            have NEW : Hid (∀ j u, (row8 [(((a, b, c), (a, b, d')) : D6)])[j]? = some u → W9.cell? ((⟨w8.heap.size, 0, none⟩ : Addr).add j) = some u) := by
              show ∀ j u, _
              rw [← hW9b, ← hPS]
              exact six_new (((a, b, c), (a, b, d')) : D6) _
            have HB9 : Hid (base ≤ W9.heap.size) := by show _ ≤ _; rw [← hW9b]; have := BW.out; unfold AtL8 at this; simp; omega
            have HL9 : Hid (L.length ≤ 1200) := by show _ ≤ _; omega
            clear hW9b hPS hWP
            obtain ⟨p0, p1, p2, pf0, pf1, pf2, plt⟩ := (S8.at_ (x0 := .int .i64 a) (x1 := .int .i64 b) (x2 := .int .i64 N) (g := w7.heap.size) E (by simp))
            obtain ⟨q0, q1, q2, qf0, qf1, qf2, qlt⟩ := (S8.at_ (x0 := .int .i64 a) (x1 := .int .i64 b) (x2 := .int .i64 c) (g := w.heap.size) E (by simp))
            obtain ⟨r0, r1, r2, rf0, rf1, rf2, rlt⟩ := (S8.at_ (x0 := .int .i64 a) (x1 := .int .i64 b) (x2 := .int .i64 d') (g := w.heap.size + 1) E (by simp))
            go_wp2_with (at_builtin; (try rw [hW9]); refine wpList_append_lies _ rfl (.tmp 33) (.tmp 37) 42 rfl base 44 i0 (.agg #[.int .i64 0, .int .i64 0, .int .i64 0, .int .i64 0, .int .i64 0, .int .i64 0]) 6 48 Tryd.underlying42 hi hz0 hz1 hz2 zcells6 (by decide) (.slice A L.length cp) L.length (row8 L) rfl OW9.out ⟨w8.heap.size, 0, none⟩ 1 1 (row8 [(((a, b, c), (a, b, d')) : D6)]) rfl (row8_len _) NEW.out (row8_flat _) (by decide) (by have := HL9.out; unfold maxLen; omega) (by have := HL9.out; omega) HB9.out W9.heap.size rfl ?_; intro g4 cap4 w11 hown4 hgr4 hat4 hlt4; have OWB : Hid (Own8 w11 base (.slice (some ⟨g4, 0, none⟩) (L.length + 1) cap4) (L ++ [(((a, b, c), (a, b, d')) : D6)])) := (by show Own8 _ _ _ _; unfold Own8; rw [List.length_append, row8_append]; exact hown4); have EB := Lib.hid (S8.grown E9.out OW9.out hgr4 (by omega) (fun q hq e => by have h1 := HOG.out _ e; simp at hq; rcases hq with rfl | rfl | rfl <;> simp at h1 <;> omega) (fun w_ hb => HT.out.on hb)); clear hown4 hgr4 hat4 hlt4 p0 p1 p2 pf0 pf1 pf2 plt q0 q1 q2 qf0 qf1 qf2 qlt r0 r1 r2 rf0 rf1 rf2 rlt; obtain ⟨p0, p1, p2, pf0, pf1, pf2, plt⟩ := S8.at_ (x0 := .int .i64 a) (x1 := .int .i64 b) (x2 := .int .i64 d') (g := w7.heap.size) EB (by simp))
            clear E
            have E := EB
            clear EB
            by_cases hl : a = 9999 ∧ b = 12 ∧ d' = 31
            ·
              refine (refnext_no E.out.tab (.inr hl)).mono ?_; rintro e w12 ⟨rfl, hb⟩; replace E := Lib.hid (S8.step E.out hb); replace OWB := Lib.hid (OWB.out.on hb); clear hb
              clear p0 p1 p2 pf0 pf1 pf2 plt
              clear hl
              go_wp2_with fail
              go_ret
              exact ⟨_, rfl, by have h := OWB.out.on ((Below.refl _ _).alloc (Nat.le_refl _) (.cells #[.int .i64 0, .int .i64 0, .int .i64 0] 23)); have h2 := SP2.out; rw [spl8_same (f := (a, b, c)) (t := (a, b, d')) ⟨rfl, rfl⟩] at h2; rw [h2] at h; exact Own8.mono (base' := w.heap.size) h (by omega), E.out.bel.alloc E.out.bel.size _⟩
            ·
              obtain ⟨Y, M, Z, hnx⟩ := nxt_of HR'.out hl
              have HNX := Lib.hid hnx
              clear hnx hl
              refine (refnext_is E.out.tab HR'.out HNX.out).mono ?_; rintro e w12 ⟨rfl, hb⟩; replace E := Lib.hid (S8.step E.out hb); replace OWB := Lib.hid (OWB.out.on hb); clear hb
              clear p0 p1 p2 pf0 pf1 pf2 plt
              replace E : Hid (S8 w w12 [(w.heap.size + 1, .int .i64 a, .int .i64 b, .int .i64 d'), (w.heap.size, .int .i64 a, .int .i64 b, .int .i64 c)]) := Lib.hid (S8.sub E.out (fun q hq => by simp at hq ⊢; rcases hq with rfl | rfl <;> simp))
              have hb12 : base ≤ w12.heap.size := by have := (World.ownsRow.lt OWB.out g4 rfl); omega
              obtain ⟨p0, p1, p2, pf0, pf1, pf2, plt⟩ := (S8.at_ (x0 := .int .i64 a) (x1 := .int .i64 b) (x2 := .int .i64 d') (g := w.heap.size + 1) E (by simp))
              obtain ⟨q0, q1, q2, qf0, qf1, qf2, qlt⟩ := (S8.at_ (x0 := .int .i64 a) (x1 := .int .i64 b) (x2 := .int .i64 c) (g := w.heap.size) E (by simp))
              go_wp2_with fail
              clear p0 p1 p2 pf0 pf1 pf2 plt q0 q1 q2 qf0 qf1 qf2 qlt
              go_roundw
              case rel =>
                refine ⟨Y, M, Z, L ++ [(((a, b, c), (a, b, d')) : D6)], ?_, ?_, ?_, HNX.out.ok HR'.out, ?_, ?_⟩
                · exact (OWB.out.put (by omega) _ _ _).on ((Below.refl _ _).alloc (Nat.le_refl _) _)
                · simp; omega
                · have h2 := SP2.out; rw [spl8_same (f := (a, b, c)) (t := (a, b, d')) ⟨rfl, rfl⟩] at h2; rw [rem8_past (f := (Y, M, Z)) (t := (a, b, d')) (by show cmp8 Y M Z a b d' = 1; rw [cmp8_turn, HNX.out.lt]; rfl), List.append_nil]; exact h2
                · show _ ≤ _; simp; omega
                · exact S8.alloc (S8.store E.out (g := w.heap.size) (x0 := .int .i64 a) (x1 := .int .i64 b) (x2 := .int .i64 c) (by simp) (by omega) _ (fun q hq => by simp at hq ⊢; subst hq; simp) _ _ _ (fun w_ hb => HT.out.on hb)) _
              case measure => simp [slen8]; omega
          ·
            obtain rfl : d' = N := by omega
            clear hd hdn
            have HCE : Hid (cmp8 a b d' a b d' = 0) := cmp8_same _ _ _
            obtain ⟨p0, p1, p2, pf0, pf1, pf2, plt⟩ := (S8.at_ (x0 := .int .i64 a) (x1 := .int .i64 b) (x2 := .int .i64 c) (g := w.heap.size) E (by simp))
            obtain ⟨q0, q1, q2, qf0, qf1, qf2, qlt⟩ := (S8.at_ (x0 := .int .i64 a) (x1 := .int .i64 b) (x2 := .int .i64 d') (g := w.heap.size + 1) E (by simp))
            go_wp2_with fail
            refine (refright_is E.out.tab OK.out).mono ?_; rintro e w4 ⟨rfl, hb⟩; replace E := Lib.hid (S8.step E.out hb); replace OW := Lib.hid (OW.out.on hb); replace BW := Lib.hid (BW.out.on hb); clear hb
            clear p0 p1 p2 pf0 pf1 pf2 plt q0 q1 q2 qf0 qf1 qf2 qlt
            obtain ⟨p0, p1, p2, pf0, pf1, pf2, plt⟩ := (S8.at_ (x0 := .int .i64 a) (x1 := .int .i64 b) (x2 := .int .i64 c) (g := w.heap.size) E (by simp))
            obtain ⟨q0, q1, q2, qf0, qf1, qf2, qlt⟩ := (S8.at_ (x0 := .int .i64 a) (x1 := .int .i64 b) (x2 := .int .i64 d') (g := w.heap.size + 1) E (by simp))
            go_wp2_with fail
            refine (refright_is E.out.tab HR'.out).mono ?_; rintro e w5 ⟨rfl, hb⟩; replace E := Lib.hid (S8.step E.out hb); replace OW := Lib.hid (OW.out.on hb); replace BW := Lib.hid (BW.out.on hb); clear hb
            clear p0 p1 p2 pf0 pf1 pf2 plt q0 q1 q2 qf0 qf1 qf2 qlt
            obtain ⟨p0, p1, p2, pf0, pf1, pf2, plt⟩ := (S8.at_ (x0 := .int .i64 a) (x1 := .int .i64 b) (x2 := .int .i64 c) (g := w.heap.size) E (by simp))
            obtain ⟨q0, q1, q2, qf0, qf1, qf2, qlt⟩ := (S8.at_ (x0 := .int .i64 a) (x1 := .int .i64 b) (x2 := .int .i64 d') (g := w.heap.size + 1) E (by simp))
            go_wp2_with fail
            refine (refcmp_is E.out.tab HZ.out).mono ?_; rintro e w6 ⟨rfl, hb⟩; replace E := Lib.hid (S8.step E.out hb); replace OW := Lib.hid (OW.out.on hb); replace BW := Lib.hid (BW.out.on hb); clear hb
            clear p0 p1 p2 pf0 pf1 pf2 plt q0 q1 q2 qf0 qf1 qf2 qlt
            obtain ⟨p0, p1, p2, pf0, pf1, pf2, plt⟩ := (S8.at_ (x0 := .int .i64 a) (x1 := .int .i64 b) (x2 := .int .i64 c) (g := w.heap.size) E (by simp))
            go_wp2_with fail
            refine (refMonthEnd_is E.out.tab HEND.out).mono ?_; rintro e w7 ⟨rfl, hb⟩; replace E := Lib.hid (S8.step E.out hb); replace OW := Lib.hid (OW.out.on hb); replace BW := Lib.hid (BW.out.on hb); clear hb
            have HOG : Hid (∀ g, (Value.slice A L.length cp).ownBlock = some g → base ≤ g ∧ g < w7.heap.size) := fun g e => World.ownsRow.lt OW.out g e
            have hew : w.heap.size + 1 < w7.heap.size := ((S8.at_ (x0 := .int .i64 a) (x1 := .int .i64 b) (x2 := .int .i64 d') (g := w.heap.size + 1) E (by simp))).lt
            clear p0 p1 p2 pf0 pf1 pf2 plt
            obtain ⟨q0, q1, q2, qf0, qf1, qf2, qlt⟩ := (S8.at_ (x0 := .int .i64 a) (x1 := .int .i64 b) (x2 := .int .i64 d') (g := w.heap.size + 1) E (by simp))
            go_wp2_with fail
            clear q0 q1 q2 qf0 qf1 qf2 qlt
            replace E := Lib.hid (S8.lay (t := 23) (x0 := .int .i64 a) (x1 := .int .i64 b) (x2 := .int .i64 d') (g := w7.heap.size) E.out rfl)
            replace OW := Lib.hid (OW.out.on ((Below.refl _ _).alloc (Nat.le_refl _) (.cells #[.int .i64 a, .int .i64 b, .int .i64 d'] 23)))
            replace BW := Lib.hid (BW.out.on ((Below.refl _ _).alloc (Nat.le_refl _) (.cells #[.int .i64 a, .int .i64 b, .int .i64 d'] 23)))
            generalize hW2 : World.alloc w7 _ = V1 at E OW BW ⊢
            clear hW2
            refine (refcmp_is E.out.tab HCE.out).mono ?_; rintro e w8 ⟨rfl, hb⟩; replace E := Lib.hid (S8.step E.out hb); replace OW := Lib.hid (OW.out.on hb); replace BW := Lib.hid (BW.out.on hb); clear hb
            have hV : w7.heap.size < w8.heap.size := ((S8.at_ (x0 := .int .i64 a) (x1 := .int .i64 b) (x2 := .int .i64 d') (g := w7.heap.size) E (by simp))).lt
            obtain ⟨W9, hW9⟩ : ∃ v, World.alloc w8 (.cells #[.int .i64 a, .int .i64 b, .int .i64 c, .int .i64 a, .int .i64 b, .int .i64 d'] 44) = v := ⟨_, rfl⟩
            have hW9b := hW9
            have hPS : w8.heap.size = w8.heap.size := rfl
            have OW9 : Hid (Own8 W9 base (.slice A L.length cp) L) := by rw [← hW9b]; exact OW.out.on ((Below.refl _ _).alloc (Nat.le_refl _) _)
            have E9 : Hid (S8 w W9 [(w7.heap.size, .int .i64 a, .int .i64 b, .int .i64 d'), (w.heap.size + 1, .int .i64 a, .int .i64 b, .int .i64 d'), (w.heap.size, .int .i64 a, .int .i64 b, .int .i64 c)]) := by rw [← hW9b]; exact S8.sub (S8.alloc E.out _) (fun q hq => by simp at hq ⊢; rcases hq with rfl | rfl | rfl <;> simp)
            have NEW : Hid (∀ j u, (row8 [(((a, b, c), (a, b, d')) : D6)])[j]? = some u → W9.cell? ((⟨w8.heap.size, 0, none⟩ : Addr).add j) = some u) := by
              show ∀ j u, _
              rw [← hW9b, ← hPS]
              exact six_new (((a, b, c), (a, b, d')) : D6) _
            have HB9 : Hid (base ≤ W9.heap.size) := by show _ ≤ _; rw [← hW9b]; have := BW.out; unfold AtL8 at this; simp; omega
            have HL9 : Hid (L.length ≤ 1200) := by show _ ≤ _; omega
            clear hW9b hPS
            obtain ⟨p0, p1, p2, pf0, pf1, pf2, plt⟩ := (S8.at_ (x0 := .int .i64 a) (x1 := .int .i64 b) (x2 := .int .i64 d') (g := w7.heap.size) E (by simp))
            obtain ⟨q0, q1, q2, qf0, qf1, qf2, qlt⟩ := (S8.at_ (x0 := .int .i64 a) (x1 := .int .i64 b) (x2 := .int .i64 c) (g := w.heap.size) E (by simp))
            obtain ⟨r0, r1, r2, rf0, rf1, rf2, rlt⟩ := (S8.at_ (x0 := .int .i64 a) (x1 := .int .i64 b) (x2 := .int .i64 d') (g := w.heap.size + 1) E (by simp))
            go_wp2_with (at_builtin; (try rw [hW9]); refine wpList_append_lies _ rfl (.tmp 33) (.tmp 37) 42 rfl base 44 i0 (.agg #[.int .i64 0, .int .i64 0, .int .i64 0, .int .i64 0, .int .i64 0, .int .i64 0]) 6 48 Tryd.underlying42 hi hz0 hz1 hz2 zcells6 (by decide) (.slice A L.length cp) L.length (row8 L) rfl OW9.out ⟨w8.heap.size, 0, none⟩ 1 1 (row8 [(((a, b, c), (a, b, d')) : D6)]) rfl (row8_len _) NEW.out (row8_flat _) (by decide) (by have := HL9.out; unfold maxLen; omega) (by have := HL9.out; omega) HB9.out W9.heap.size rfl ?_; intro g4 cap4 w11 hown4 hgr4 hat4 hlt4; have OWB : Hid (Own8 w11 base (.slice (some ⟨g4, 0, none⟩) (L.length + 1) cap4) (L ++ [(((a, b, c), (a, b, d')) : D6)])) := (by show Own8 _ _ _ _; unfold Own8; rw [List.length_append, row8_append]; exact hown4); have EB := Lib.hid (S8.grown E9.out OW9.out hgr4 (by omega) (fun q hq e => by have h1 := HOG.out _ e; simp at hq; rcases hq with rfl | rfl | rfl <;> simp at h1 <;> omega) (fun w_ hb => HT.out.on hb)); clear hown4 hgr4 hat4 hlt4 p0 p1 p2 pf0 pf1 pf2 plt q0 q1 q2 qf0 qf1 qf2 qlt r0 r1 r2 rf0 rf1 rf2 rlt; obtain ⟨p0, p1, p2, pf0, pf1, pf2, plt⟩ := S8.at_ (x0 := .int .i64 a) (x1 := .int .i64 b) (x2 := .int .i64 d') (g := w7.heap.size) EB (by simp))
            clear E
            have E := EB
            clear EB
            by_cases hl : a = 9999 ∧ b = 12 ∧ d' = 31
            ·
              refine (refnext_no E.out.tab (.inr hl)).mono ?_; rintro e w12 ⟨rfl, hb⟩; replace E := Lib.hid (S8.step E.out hb); replace OWB := Lib.hid (OWB.out.on hb); clear hb
              clear p0 p1 p2 pf0 pf1 pf2 plt
              clear hl
              go_wp2_with fail
              go_ret
              exact ⟨_, rfl, by have h := OWB.out.on ((Below.refl _ _).alloc (Nat.le_refl _) (.cells #[.int .i64 0, .int .i64 0, .int .i64 0] 23)); have h2 := SP2.out; rw [spl8_same (f := (a, b, c)) (t := (a, b, d')) ⟨rfl, rfl⟩] at h2; rw [h2] at h; exact Own8.mono (base' := w.heap.size) h (by omega), E.out.bel.alloc E.out.bel.size _⟩
            ·
              obtain ⟨Y, M, Z, hnx⟩ := nxt_of HR'.out hl
              have HNX := Lib.hid hnx
              clear hnx hl
              refine (refnext_is E.out.tab HR'.out HNX.out).mono ?_; rintro e w12 ⟨rfl, hb⟩; replace E := Lib.hid (S8.step E.out hb); replace OWB := Lib.hid (OWB.out.on hb); clear hb
              clear p0 p1 p2 pf0 pf1 pf2 plt
              replace E : Hid (S8 w w12 [(w.heap.size + 1, .int .i64 a, .int .i64 b, .int .i64 d'), (w.heap.size, .int .i64 a, .int .i64 b, .int .i64 c)]) := Lib.hid (S8.sub E.out (fun q hq => by simp at hq ⊢; rcases hq with rfl | rfl <;> simp))
              have hb12 : base ≤ w12.heap.size := by have := (World.ownsRow.lt OWB.out g4 rfl); omega
              obtain ⟨p0, p1, p2, pf0, pf1, pf2, plt⟩ := (S8.at_ (x0 := .int .i64 a) (x1 := .int .i64 b) (x2 := .int .i64 d') (g := w.heap.size + 1) E (by simp))
              obtain ⟨q0, q1, q2, qf0, qf1, qf2, qlt⟩ := (S8.at_ (x0 := .int .i64 a) (x1 := .int .i64 b) (x2 := .int .i64 c) (g := w.heap.size) E (by simp))
              go_wp2_with fail
              clear p0 p1 p2 pf0 pf1 pf2 plt q0 q1 q2 qf0 qf1 qf2 qlt
              go_roundw
              case rel =>
                refine ⟨Y, M, Z, L ++ [(((a, b, c), (a, b, d')) : D6)], ?_, ?_, ?_, HNX.out.ok HR'.out, ?_, ?_⟩
                · exact (OWB.out.put (by omega) _ _ _).on ((Below.refl _ _).alloc (Nat.le_refl _) _)
                · simp; omega
                · have h2 := SP2.out; rw [spl8_same (f := (a, b, c)) (t := (a, b, d')) ⟨rfl, rfl⟩] at h2; rw [rem8_past (f := (Y, M, Z)) (t := (a, b, d')) (by show cmp8 Y M Z a b d' = 1; rw [cmp8_turn, HNX.out.lt]; rfl), List.append_nil]; exact h2
                · show _ ≤ _; simp; omega
                · exact S8.alloc (S8.store E.out (g := w.heap.size) (x0 := .int .i64 a) (x1 := .int .i64 b) (x2 := .int .i64 c) (by simp) (by omega) _ (fun q hq => by simp at hq ⊢; subst hq; simp) _ _ _ (fun w_ hb => HT.out.on hb)) _
              case measure => simp [slen8]; omega
        ·
          obtain ⟨f1, ⟨Y, M, Z, f2, f3, f4, f5⟩, f6, f7⟩ := nxm8_facts OK.out HR'.out LE.out hs
          have HCE : Hid (cmp8 a b N y' m' d' = -1) := by show _ = _; rw [← HN.out]; exact f7
          have HKN : Hid (ok8 a b N = true) := by show _ = _; rw [← HN.out]; exact f1
          have HNX : Hid (Nxt a b N Y M Z) := by show Nxt _ _ _ _ _ _; rw [← HN.out]; exact f3
          have HNM := Lib.hid f2
          have HOK2 := Lib.hid f4
          have HLE2 := Lib.hid f5
          clear f1 f2 f3 f4 f5 f6 f7
          obtain ⟨p0, p1, p2, pf0, pf1, pf2, plt⟩ := (S8.at_ (x0 := .int .i64 a) (x1 := .int .i64 b) (x2 := .int .i64 c) (g := w.heap.size) E (by simp))
          obtain ⟨q0, q1, q2, qf0, qf1, qf2, qlt⟩ := (S8.at_ (x0 := .int .i64 y') (x1 := .int .i64 m') (x2 := .int .i64 d') (g := w.heap.size + 1) E (by simp))
          go_wp2_with fail
          refine (refright_is E.out.tab OK.out).mono ?_; rintro e w4 ⟨rfl, hb⟩; replace E := Lib.hid (S8.step E.out hb); replace OW := Lib.hid (OW.out.on hb); replace BW := Lib.hid (BW.out.on hb); clear hb
          clear p0 p1 p2 pf0 pf1 pf2 plt q0 q1 q2 qf0 qf1 qf2 qlt
          obtain ⟨p0, p1, p2, pf0, pf1, pf2, plt⟩ := (S8.at_ (x0 := .int .i64 a) (x1 := .int .i64 b) (x2 := .int .i64 c) (g := w.heap.size) E (by simp))
          obtain ⟨q0, q1, q2, qf0, qf1, qf2, qlt⟩ := (S8.at_ (x0 := .int .i64 y') (x1 := .int .i64 m') (x2 := .int .i64 d') (g := w.heap.size + 1) E (by simp))
          go_wp2_with fail
          refine (refright_is E.out.tab HR'.out).mono ?_; rintro e w5 ⟨rfl, hb⟩; replace E := Lib.hid (S8.step E.out hb); replace OW := Lib.hid (OW.out.on hb); replace BW := Lib.hid (BW.out.on hb); clear hb
          clear p0 p1 p2 pf0 pf1 pf2 plt q0 q1 q2 qf0 qf1 qf2 qlt
          obtain ⟨p0, p1, p2, pf0, pf1, pf2, plt⟩ := (S8.at_ (x0 := .int .i64 a) (x1 := .int .i64 b) (x2 := .int .i64 c) (g := w.heap.size) E (by simp))
          obtain ⟨q0, q1, q2, qf0, qf1, qf2, qlt⟩ := (S8.at_ (x0 := .int .i64 y') (x1 := .int .i64 m') (x2 := .int .i64 d') (g := w.heap.size + 1) E (by simp))
          go_wp2_with fail
          refine (refcmp_is E.out.tab HZ.out).mono ?_; rintro e w6 ⟨rfl, hb⟩; replace E := Lib.hid (S8.step E.out hb); replace OW := Lib.hid (OW.out.on hb); replace BW := Lib.hid (BW.out.on hb); clear hb
          clear p0 p1 p2 pf0 pf1 pf2 plt q0 q1 q2 qf0 qf1 qf2 qlt
          obtain ⟨p0, p1, p2, pf0, pf1, pf2, plt⟩ := (S8.at_ (x0 := .int .i64 a) (x1 := .int .i64 b) (x2 := .int .i64 c) (g := w.heap.size) E (by simp))
          go_wp2_with fail
          refine (refMonthEnd_is E.out.tab HEND.out).mono ?_; rintro e w7 ⟨rfl, hb⟩; replace E := Lib.hid (S8.step E.out hb); replace OW := Lib.hid (OW.out.on hb); replace BW := Lib.hid (BW.out.on hb); clear hb
          have HOG : Hid (∀ g, (Value.slice A L.length cp).ownBlock = some g → base ≤ g ∧ g < w7.heap.size) := fun g e => World.ownsRow.lt OW.out g e
          have hew : w.heap.size + 1 < w7.heap.size := ((S8.at_ (x0 := .int .i64 y') (x1 := .int .i64 m') (x2 := .int .i64 d') (g := w.heap.size + 1) E (by simp))).lt
          clear p0 p1 p2 pf0 pf1 pf2 plt
          obtain ⟨q0, q1, q2, qf0, qf1, qf2, qlt⟩ := (S8.at_ (x0 := .int .i64 y') (x1 := .int .i64 m') (x2 := .int .i64 d') (g := w.heap.size + 1) E (by simp))
          go_wp2_with fail
          clear q0 q1 q2 qf0 qf1 qf2 qlt
          replace E := Lib.hid (S8.lay (t := 23) (x0 := .int .i64 a) (x1 := .int .i64 b) (x2 := .int .i64 N) (g := w7.heap.size) E.out rfl)
          replace OW := Lib.hid (OW.out.on ((Below.refl _ _).alloc (Nat.le_refl _) (.cells #[.int .i64 a, .int .i64 b, .int .i64 N] 23)))
          replace BW := Lib.hid (BW.out.on ((Below.refl _ _).alloc (Nat.le_refl _) (.cells #[.int .i64 a, .int .i64 b, .int .i64 N] 23)))
          generalize hW2 : World.alloc w7 _ = V1 at E OW BW ⊢
          clear hW2
          refine (refcmp_is E.out.tab HCE.out).mono ?_; rintro e w8 ⟨rfl, hb⟩; replace E := Lib.hid (S8.step E.out hb); replace OW := Lib.hid (OW.out.on hb); replace BW := Lib.hid (BW.out.on hb); clear hb
          have hV : w7.heap.size < w8.heap.size := ((S8.at_ (x0 := .int .i64 a) (x1 := .int .i64 b) (x2 := .int .i64 N) (g := w7.heap.size) E (by simp))).lt
          obtain ⟨W9, hW9⟩ : ∃ v, World.alloc w8 (.cells #[.int .i64 a, .int .i64 b, .int .i64 c, .int .i64 a, .int .i64 b, .int .i64 N] 44) = v := ⟨_, rfl⟩
          have hW9b := hW9
          have hPS : w8.heap.size = w8.heap.size := rfl
          have OW9 : Hid (Own8 W9 base (.slice A L.length cp) L) := by rw [← hW9b]; exact OW.out.on ((Below.refl _ _).alloc (Nat.le_refl _) _)
          have E9 : Hid (S8 w W9 [(w7.heap.size, .int .i64 a, .int .i64 b, .int .i64 N), (w.heap.size + 1, .int .i64 y', .int .i64 m', .int .i64 d'), (w.heap.size, .int .i64 a, .int .i64 b, .int .i64 c)]) := by rw [← hW9b]; exact S8.sub (S8.alloc E.out _) (fun q hq => by simp at hq ⊢; rcases hq with rfl | rfl | rfl <;> simp)
          have NEW : Hid (∀ j u, (row8 [(((a, b, c), (a, b, N)) : D6)])[j]? = some u → W9.cell? ((⟨w8.heap.size, 0, none⟩ : Addr).add j) = some u) := by
            show ∀ j u, _
            rw [← hW9b, ← hPS]
            exact six_new (((a, b, c), (a, b, N)) : D6) _
          have HB9 : Hid (base ≤ W9.heap.size) := by show _ ≤ _; rw [← hW9b]; have := BW.out; unfold AtL8 at this; simp; omega
          have HL9 : Hid (L.length ≤ 1200) := by show _ ≤ _; omega
          clear hW9b hPS
          obtain ⟨p0, p1, p2, pf0, pf1, pf2, plt⟩ := (S8.at_ (x0 := .int .i64 a) (x1 := .int .i64 b) (x2 := .int .i64 N) (g := w7.heap.size) E (by simp))
          obtain ⟨q0, q1, q2, qf0, qf1, qf2, qlt⟩ := (S8.at_ (x0 := .int .i64 a) (x1 := .int .i64 b) (x2 := .int .i64 c) (g := w.heap.size) E (by simp))
          obtain ⟨r0, r1, r2, rf0, rf1, rf2, rlt⟩ := (S8.at_ (x0 := .int .i64 y') (x1 := .int .i64 m') (x2 := .int .i64 d') (g := w.heap.size + 1) E (by simp))
          go_wp2_with (at_builtin; (try rw [hW9]); refine wpList_append_lies _ rfl (.tmp 33) (.tmp 37) 42 rfl base 44 i0 (.agg #[.int .i64 0, .int .i64 0, .int .i64 0, .int .i64 0, .int .i64 0, .int .i64 0]) 6 48 Tryd.underlying42 hi hz0 hz1 hz2 zcells6 (by decide) (.slice A L.length cp) L.length (row8 L) rfl OW9.out ⟨w8.heap.size, 0, none⟩ 1 1 (row8 [(((a, b, c), (a, b, N)) : D6)]) rfl (row8_len _) NEW.out (row8_flat _) (by decide) (by have := HL9.out; unfold maxLen; omega) (by have := HL9.out; omega) HB9.out W9.heap.size rfl ?_; intro g4 cap4 w11 hown4 hgr4 hat4 hlt4; have OWB : Hid (Own8 w11 base (.slice (some ⟨g4, 0, none⟩) (L.length + 1) cap4) (L ++ [(((a, b, c), (a, b, N)) : D6)])) := (by show Own8 _ _ _ _; unfold Own8; rw [List.length_append, row8_append]; exact hown4); have EB := Lib.hid (S8.grown E9.out OW9.out hgr4 (by omega) (fun q hq e => by have h1 := HOG.out _ e; simp at hq; rcases hq with rfl | rfl | rfl <;> simp at h1 <;> omega) (fun w_ hb => HT.out.on hb)); clear hown4 hgr4 hat4 hlt4 p0 p1 p2 pf0 pf1 pf2 plt q0 q1 q2 qf0 qf1 qf2 qlt r0 r1 r2 rf0 rf1 rf2 rlt; obtain ⟨p0, p1, p2, pf0, pf1, pf2, plt⟩ := S8.at_ (x0 := .int .i64 a) (x1 := .int .i64 b) (x2 := .int .i64 N) (g := w7.heap.size) EB (by simp))
          clear E
          have E := EB
          clear EB
          refine (refnext_is E.out.tab HKN.out HNX.out).mono ?_; rintro e w12 ⟨rfl, hb⟩; replace E := Lib.hid (S8.step E.out hb); replace OWB := Lib.hid (OWB.out.on hb); clear hb
          clear p0 p1 p2 pf0 pf1 pf2 plt
          replace E : Hid (S8 w w12 [(w.heap.size + 1, .int .i64 y', .int .i64 m', .int .i64 d'), (w.heap.size, .int .i64 a, .int .i64 b, .int .i64 c)]) := Lib.hid (S8.sub E.out (fun q hq => by simp at hq ⊢; rcases hq with rfl | rfl <;> simp))
          have hb12 : base ≤ w12.heap.size := by have := (World.ownsRow.lt OWB.out g4 rfl); omega
          obtain ⟨p0, p1, p2, pf0, pf1, pf2, plt⟩ := (S8.at_ (x0 := .int .i64 y') (x1 := .int .i64 m') (x2 := .int .i64 d') (g := w.heap.size + 1) E (by simp))
          obtain ⟨q0, q1, q2, qf0, qf1, qf2, qlt⟩ := (S8.at_ (x0 := .int .i64 a) (x1 := .int .i64 b) (x2 := .int .i64 c) (g := w.heap.size) E (by simp))
          go_wp2_with fail
          clear p0 p1 p2 pf0 pf1 pf2 plt q0 q1 q2 qf0 qf1 qf2 qlt
          go_roundw
          case rel =>
            refine ⟨Y, M, Z, L ++ [(((a, b, c), (a, b, N)) : D6)], ?_, ?_, ?_, HOK2.out, ?_, ?_⟩
            · exact (OWB.out.put (by omega) _ _ _).on ((Below.refl _ _).alloc (Nat.le_refl _) _)
            · simp; omega
            · have h2 := SP2.out; rw [spl8_on (f := (a, b, c)) (t := (y', m', d')) (fun h => hs ⟨h.1, h.2⟩), HNM.out] at h2; rw [List.length_append, List.append_assoc]; show _ ++ ([_] ++ rem8 (1200 - (L.length + 1)) _ _) = _; rw [show 1200 - (L.length + 1) = q by omega, rem8_on (f := (Y, M, Z)) (t := (y', m', d')) HLE2.out, ← h2, HN.out]; rfl
            · show _ ≤ _; simp; omega
            · exact S8.alloc (S8.store E.out (g := w.heap.size) (x0 := .int .i64 a) (x1 := .int .i64 b) (x2 := .int .i64 c) (by simp) (by omega) _ (fun q hq => by simp at hq ⊢; subst hq; simp) _ _ _ (fun w_ hb => HT.out.on hb)) _
          case measure => simp [slen8]; omega
      ·
        have h0 : 1200 - L.length = 0 := by omega
        have hki : ¬ ((L.length : Int) < 1200) := by omega
        have H0 := Lib.hid h0
        clear h0
        obtain ⟨p0, p1, p2, pf0, pf1, pf2, plt⟩ := (S8.at_ (x0 := .int .i64 a) (x1 := .int .i64 b) (x2 := .int .i64 c) (g := w.heap.size) E (by simp))
        obtain ⟨q0, q1, q2, qf0, qf1, qf2, qlt⟩ := (S8.at_ (x0 := .int .i64 y') (x1 := .int .i64 m') (x2 := .int .i64 d') (g := w.heap.size + 1) E (by simp))
        go_wp2_with fail
        refine (refright_is E.out.tab OK.out).mono ?_; rintro e w4 ⟨rfl, hb⟩; replace E := Lib.hid (S8.step E.out hb); replace OW := Lib.hid (OW.out.on hb); replace BW := Lib.hid (BW.out.on hb); clear hb
        clear p0 p1 p2 pf0 pf1 pf2 plt q0 q1 q2 qf0 qf1 qf2 qlt
        obtain ⟨p0, p1, p2, pf0, pf1, pf2, plt⟩ := (S8.at_ (x0 := .int .i64 a) (x1 := .int .i64 b) (x2 := .int .i64 c) (g := w.heap.size) E (by simp))
        obtain ⟨q0, q1, q2, qf0, qf1, qf2, qlt⟩ := (S8.at_ (x0 := .int .i64 y') (x1 := .int .i64 m') (x2 := .int .i64 d') (g := w.heap.size + 1) E (by simp))
        go_wp2_with fail
        refine (refright_is E.out.tab HR'.out).mono ?_; rintro e w5 ⟨rfl, hb⟩; replace E := Lib.hid (S8.step E.out hb); replace OW := Lib.hid (OW.out.on hb); replace BW := Lib.hid (BW.out.on hb); clear hb
        clear p0 p1 p2 pf0 pf1 pf2 plt q0 q1 q2 qf0 qf1 qf2 qlt
        obtain ⟨p0, p1, p2, pf0, pf1, pf2, plt⟩ := (S8.at_ (x0 := .int .i64 a) (x1 := .int .i64 b) (x2 := .int .i64 c) (g := w.heap.size) E (by simp))
        obtain ⟨q0, q1, q2, qf0, qf1, qf2, qlt⟩ := (S8.at_ (x0 := .int .i64 y') (x1 := .int .i64 m') (x2 := .int .i64 d') (g := w.heap.size + 1) E (by simp))
        go_wp2_with fail
        refine (refcmp_is E.out.tab HZ.out).mono ?_; rintro e w6 ⟨rfl, hb⟩; replace E := Lib.hid (S8.step E.out hb); replace OW := Lib.hid (OW.out.on hb); replace BW := Lib.hid (BW.out.on hb); clear hb
        clear p0 p1 p2 pf0 pf1 pf2 plt q0 q1 q2 qf0 qf1 qf2 qlt
        go_wp2_with fail
        go_ret
        exact ⟨_, rfl, by have h2 := SPL.out; rw [rem8_on (f := (a, b, c)) (t := (y', m', d')) LE.out, H0.out, spl8, List.append_nil] at h2; rw [← h2]; exact Own8.mono (base' := w.heap.size) OW.out (by omega), E.out.bel⟩

end Go.Proofs.YtnndamhilbcdfaaDoor
