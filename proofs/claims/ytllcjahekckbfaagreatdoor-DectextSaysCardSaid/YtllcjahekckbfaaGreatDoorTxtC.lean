/-
  Layer 7, contracts, the third part: split, grouped, Text, Plain, Commas.
-/
import Derived.Test.YtllcjahekckbfaaGreatDoorTxtB
import Derived.Deep.QuietTactic
import Derived.BigQuiet
set_option linter.unusedVariables false
set_option linter.unusedSimpArgs false
namespace Go.Proofs.YtllcjahekckbfaaGreatDoor
open Go.RowKit

theorem str_add7 {x y : ByteArray} {l : List Nat} (h : codes x ++ codes y = l) (hl : x.size + y.size ≤ 9223372036854775807) (w : World) : (Op.stringOp .add x y).run Tryz.prog w = .ok (.string (str l)) w := by
  have hx := str_codes x
  have hy := str_codes y
  have e := str_add (codes x) (codes y) (by rw [codes_len, codes_len]; exact hl) w
  rw [hx, hy, h] at e
  exact e
theorem extract_to (s : ByteArray) (k : Nat) : s.extract 0 k = str ((codes s).take k) := by
  have e := str_take (codes s) k
  rw [str_codes] at e
  exact e
theorem sign_ge {i : Int} (h : ¬ i < 0) : 0 ≤ i.sign := by
  rcases Int.lt_trichotomy i 0 with h0 | h0 | h0
  · exact absurd h0 h
  · subst h0; decide
  · rw [Int.sign_eq_one_iff_pos.2 h0]; decide
theorem txt_size (a : Nat) : (str (txt a)).size = nd a := str_size _
/-- What split answers. -/
def RetSplit (W : World) (i : Int) (s : Nat) (e : Ending) (w' : World) : Prop := RetVal W (.tuple #[.string (str (sgT i)), .string (str (txt (i.natAbs / 10 ^ s))), .string (str (beh s i.natAbs))]) e w'

set_option maxRecDepth 100000 in
set_option maxHeartbeats 2000000 in
theorem split_small1 (A : Option Addr) (n c s : Nat) (i : Int) (w : World) (h : Num w w.heap.size A n c i.natAbs) (hn : n ≤ 1000) (hs : s ≤ 1000) (hsg : i < 0) (hw : nd i.natAbs ≤ s) :
    Calls Tryz.prog 27 #[.agg #[.bool (ngB i), .slice A n c, .int .i64 (s : Int)]] w (RetSplit w i s) := by
  have H := Lib.hid h
  have hnd : nd i.natAbs ≤ 10000 := by have := nd_le_len h.len; omega
  have hsx := max_zero (P := Tryz.prog) (s := s)
  have hs0 : (0 : Int) ≤ (s : Int) := by omega
  have HS : Hid (sgT i = [45]) := by show _ = _; unfold sgT; rw [if_pos hsg]
  obtain ⟨σ, hσ⟩ : ∃ σ, σ = i.sign := ⟨_, rfl⟩
  have hσ0 : σ < 0 := by rw [hσ]; rw [Int.sign_eq_neg_one_iff_neg.2 hsg]; omega
  have CS : Hid (∀ w', Num w' w'.heap.size A n c i.natAbs → Calls Tryz.prog 45 #[.agg #[.bool (ngB i), .slice A n c, .int .i64 (s : Int)]] w' (RetVal w' (.int .i64 σ))) := by rw [hσ]; exact fun w' h' => sign_any A n c s i w' h'
  have CT : Hid (∀ w', Num w' w'.heap.size A n c i.natAbs → Calls Tryz.prog 46 #[.slice A n c] w' (RetVal w' (.string (str (txt i.natAbs))))) := fun w' h' => text_any A n c i.natAbs _ w' h' (Nat.le_refl _) (by omega)
  have HSZ := Lib.hid (txt_size i.natAbs)
  obtain ⟨T, hT⟩ : ∃ T, T = str (txt i.natAbs) := ⟨_, rfl⟩
  rw [← hT] at CT HSZ
  have HT : Hid (codes T = txt i.natAbs) := by show _ = _; rw [hT, codes_str (txt_bytes _)]
  obtain ⟨K, hK⟩ : ∃ K, K = nd i.natAbs := ⟨_, rfl⟩
  rw [← hK] at HSZ hnd
  obtain ⟨h1, h2⟩ := beh_small hw
  rw [← hK] at hw h1
  obtain ⟨k, hk⟩ : ∃ k, k = s - K := ⟨_, rfl⟩
  rw [← hk] at h1
  have HE : Hid (beh s i.natAbs = 46 :: (List.replicate k 48 ++ txt i.natAbs) ∧ txt (i.natAbs / 10 ^ s) = [48]) := ⟨h1, h2⟩
  have ek : (s : Int) - (T.size : Int) = (k : Int) := by rw [HSZ.out]; omega
  have hkb : k ≤ 1000 := by omega
  have CR := Lib.hid (fun w' => srepeat_any k w' (by omega))
  obtain ⟨R, hR⟩ : ∃ R, R = str (List.replicate k 48) := ⟨_, rfl⟩
  rw [← hR] at CR
  have hRc : codes R = List.replicate k 48 := by rw [hR, codes_str]; intro x hx; rw [(List.mem_replicate.1 hx).2]; omega
  have hRs : R.size = k := by rw [← codes_len, hRc, List.length_replicate]
  have ha1 : ∀ w', (Op.stringOp .add ⟨#[46]⟩ R).run Tryz.prog w' = .ok (.string (str (46 :: List.replicate k 48))) w' := fun w' => str_add7 (by rw [hRc]; rfl) (by show 1 + R.size ≤ _; omega) w'
  obtain ⟨R1, hR1⟩ : ∃ R1, R1 = str (46 :: List.replicate k 48) := ⟨_, rfl⟩
  rw [← hR1] at ha1
  have hR1c : codes R1 = 46 :: List.replicate k 48 := by
    rw [hR1, codes_str]; intro x hx
    rcases List.mem_cons.1 hx with rfl | hx
    · omega
    · rw [(List.mem_replicate.1 hx).2]; omega
  have hR1s : R1.size = k + 1 := by rw [← codes_len, hR1c, List.length_cons, List.length_replicate]
  have ha2 : ∀ w', (Op.stringOp .add R1 T).run Tryz.prog w' = .ok (.string (str (beh s i.natAbs))) w' := fun w' => str_add7 (by rw [hR1c, HT.out, HE.out.1]; rfl) (by rw [hR1s, HSZ.out]; omega) w'
  clear hR hRc hRs hR1 hR1c hR1s h1 h2 hk
  clear h hsg hσ hT hw
  go_enter Tryz.func27, Tryz.ntmps27
  go_wp2_with fail
  generalize hW : World.alloc w _ = W0
  have E0 : St w W0 [(A, n, c, i.natAbs)] [(w.heap.size, .bool (ngB i), .slice A n c, .int .i64 (s : Int))] := by rw [← hW]; exact (start_one H.out).lay rfl
  have E := Lib.hid E0
  clear hW E0
  obtain ⟨p0, p1, p2, pf0, pf1, pf2, plt⟩ := St.at_ (x0 := .bool (ngB i)) (x1 := .slice A n c) (x2 := .int .i64 (s : Int)) (g := w.heap.size) E (by simp)
  go_wp2_with fail
  refine (CS.out _ (St.got E (by simp))).mono ?_; rintro e w1 ⟨rfl, hb1⟩; replace E := Lib.hid (St.step E.out hb1); clear hb1 p0 p1 p2 pf0 pf1 pf2 plt
  obtain ⟨p0, p1, p2, pf0, pf1, pf2, plt⟩ := St.at_ (x0 := .bool (ngB i)) (x1 := .slice A n c) (x2 := .int .i64 (s : Int)) (g := w.heap.size) E (by simp)
  go_wp2_with fail
  refine (CT.out _ (St.got E (by simp))).mono ?_; rintro e w2 ⟨rfl, hb1⟩; replace E := Lib.hid (St.step E.out hb1); clear hb1 p0 p1 p2 pf0 pf1 pf2 plt
  go_wp2_with fail
  refine (CR.out _).mono ?_; rintro e w3 ⟨rfl, hb1⟩; replace E := Lib.hid (St.step E.out hb1); clear hb1
  go_wp2_with fail
  go_ret3
  exact ⟨by rw [HS.out, HE.out.2]; rfl, E.out.bel⟩

set_option maxRecDepth 100000 in
set_option maxHeartbeats 2000000 in
theorem split_large1 (A : Option Addr) (n c s : Nat) (i : Int) (w : World) (h : Num w w.heap.size A n c i.natAbs) (hn : n ≤ 1000) (hs : s ≤ 1000) (hsg : i < 0) (hw : s < nd i.natAbs) (h0 : 0 < s) :
    Calls Tryz.prog 27 #[.agg #[.bool (ngB i), .slice A n c, .int .i64 (s : Int)]] w (RetSplit w i s) := by
  have H := Lib.hid h
  have hnd : nd i.natAbs ≤ 10000 := by have := nd_le_len h.len; omega
  have hsx := max_zero (P := Tryz.prog) (s := s)
  have hs0 : (0 : Int) ≤ (s : Int) := by omega
  have HS : Hid (sgT i = [45]) := by show _ = _; unfold sgT; rw [if_pos hsg]
  obtain ⟨σ, hσ⟩ : ∃ σ, σ = i.sign := ⟨_, rfl⟩
  have hσ0 : σ < 0 := by rw [hσ]; rw [Int.sign_eq_neg_one_iff_neg.2 hsg]; omega
  have CS : Hid (∀ w', Num w' w'.heap.size A n c i.natAbs → Calls Tryz.prog 45 #[.agg #[.bool (ngB i), .slice A n c, .int .i64 (s : Int)]] w' (RetVal w' (.int .i64 σ))) := by rw [hσ]; exact fun w' h' => sign_any A n c s i w' h'
  have CT : Hid (∀ w', Num w' w'.heap.size A n c i.natAbs → Calls Tryz.prog 46 #[.slice A n c] w' (RetVal w' (.string (str (txt i.natAbs))))) := fun w' h' => text_any A n c i.natAbs _ w' h' (Nat.le_refl _) (by omega)
  have HSZ := Lib.hid (txt_size i.natAbs)
  obtain ⟨T, hT⟩ : ∃ T, T = str (txt i.natAbs) := ⟨_, rfl⟩
  rw [← hT] at CT HSZ
  have HT : Hid (codes T = txt i.natAbs) := by show _ = _; rw [hT, codes_str (txt_bytes _)]
  obtain ⟨K, hK⟩ : ∃ K, K = nd i.natAbs := ⟨_, rfl⟩
  rw [← hK] at HSZ hnd
  have h1 := beh_large hw h0
  have h2 := take_txt s i.natAbs hw
  rw [← hK] at hw h1 h2
  obtain ⟨m, hm⟩ : ∃ m, m = K - s := ⟨_, rfl⟩
  rw [← hm] at h1 h2
  have em0 : (s : Int) - (T.size : Int) < 0 := by rw [HSZ.out]; omega
  have em : (T.size : Int) - (s : Int) = (m : Int) := by rw [HSZ.out]; omega
  have hmT : m ≤ T.size := by rw [HSZ.out]; omega
  have hTb : T.size ≤ 10000 := by rw [HSZ.out]; exact hnd
  have hX : codes (T.extract m T.size) = (txt i.natAbs).drop m := by
    rw [extract_from T m _ rfl, HT.out, codes_str]
    intro x hx; exact txt_bytes _ x (List.mem_of_mem_drop hx)
  have HE : Hid (T.extract 0 m = str (txt (i.natAbs / 10 ^ s))) := by show _ = _; rw [extract_to, HT.out, h2]
  have ha1 : ∀ w', (Op.stringOp .add ⟨#[46]⟩ (T.extract m T.size)).run Tryz.prog w' = .ok (.string (str (beh s i.natAbs))) w' := fun w' => str_add7 (by rw [hX, h1]; rfl) (by rw [ByteArray.size_extract]; show 1 + _ ≤ _; omega) w'
  have hs1 : (0 : Int) < (s : Int) := by omega
  clear hX h1 h2 hm h0
  clear h hsg hσ hT hw
  go_enter Tryz.func27, Tryz.ntmps27
  go_wp2_with fail
  generalize hW : World.alloc w _ = W0
  have E0 : St w W0 [(A, n, c, i.natAbs)] [(w.heap.size, .bool (ngB i), .slice A n c, .int .i64 (s : Int))] := by rw [← hW]; exact (start_one H.out).lay rfl
  have E := Lib.hid E0
  clear hW E0
  obtain ⟨p0, p1, p2, pf0, pf1, pf2, plt⟩ := St.at_ (x0 := .bool (ngB i)) (x1 := .slice A n c) (x2 := .int .i64 (s : Int)) (g := w.heap.size) E (by simp)
  go_wp2_with fail
  refine (CS.out _ (St.got E (by simp))).mono ?_; rintro e w1 ⟨rfl, hb1⟩; replace E := Lib.hid (St.step E.out hb1); clear hb1 p0 p1 p2 pf0 pf1 pf2 plt
  obtain ⟨p0, p1, p2, pf0, pf1, pf2, plt⟩ := St.at_ (x0 := .bool (ngB i)) (x1 := .slice A n c) (x2 := .int .i64 (s : Int)) (g := w.heap.size) E (by simp)
  go_wp2_with fail
  refine (CT.out _ (St.got E (by simp))).mono ?_; rintro e w2 ⟨rfl, hb1⟩; replace E := Lib.hid (St.step E.out hb1); clear hb1 p0 p1 p2 pf0 pf1 pf2 plt
  go_wp2_with fail
  go_quiet (fail)
  go_wp2_with fail
  go_ret3
  exact ⟨by rw [HS.out, ← HE.out]; rfl, E.out.bel.trans (Below.of_quiet.mono E.out.bel.size)⟩

set_option maxRecDepth 100000 in
set_option maxHeartbeats 2000000 in
theorem split_whole1 (A : Option Addr) (n c s : Nat) (i : Int) (w : World) (h : Num w w.heap.size A n c i.natAbs) (hn : n ≤ 1000) (hs : s ≤ 1000) (hsg : i < 0) (hw : s = 0) :
    Calls Tryz.prog 27 #[.agg #[.bool (ngB i), .slice A n c, .int .i64 (s : Int)]] w (RetSplit w i s) := by
  have H := Lib.hid h
  have hnd : nd i.natAbs ≤ 10000 := by have := nd_le_len h.len; omega
  have hsx := max_zero (P := Tryz.prog) (s := s)
  have hs0 : (0 : Int) ≤ (s : Int) := by omega
  have HS : Hid (sgT i = [45]) := by show _ = _; unfold sgT; rw [if_pos hsg]
  obtain ⟨σ, hσ⟩ : ∃ σ, σ = i.sign := ⟨_, rfl⟩
  have hσ0 : σ < 0 := by rw [hσ]; rw [Int.sign_eq_neg_one_iff_neg.2 hsg]; omega
  have CS : Hid (∀ w', Num w' w'.heap.size A n c i.natAbs → Calls Tryz.prog 45 #[.agg #[.bool (ngB i), .slice A n c, .int .i64 (s : Int)]] w' (RetVal w' (.int .i64 σ))) := by rw [hσ]; exact fun w' h' => sign_any A n c s i w' h'
  have CT : Hid (∀ w', Num w' w'.heap.size A n c i.natAbs → Calls Tryz.prog 46 #[.slice A n c] w' (RetVal w' (.string (str (txt i.natAbs))))) := fun w' h' => text_any A n c i.natAbs _ w' h' (Nat.le_refl _) (by omega)
  have HSZ := Lib.hid (txt_size i.natAbs)
  obtain ⟨T, hT⟩ : ∃ T, T = str (txt i.natAbs) := ⟨_, rfl⟩
  rw [← hT] at CT HSZ
  have HT : Hid (codes T = txt i.natAbs) := by show _ = _; rw [hT, codes_str (txt_bytes _)]
  obtain ⟨K, hK⟩ : ∃ K, K = nd i.natAbs := ⟨_, rfl⟩
  rw [← hK] at HSZ hnd
  have hp := nd_pos i.natAbs
  rw [← hK] at hp
  obtain ⟨m, hm⟩ : ∃ m, m = T.size := ⟨_, rfl⟩
  have em0 : (s : Int) - (T.size : Int) < 0 := by rw [HSZ.out]; omega
  have em : (T.size : Int) - (s : Int) = (m : Int) := by omega
  have hmT : m ≤ T.size := by omega
  have hs1 : (s : Int) ≤ 0 := by omega
  have hTb : T.size ≤ 10000 := by rw [HSZ.out]; exact hnd
  have HE : Hid (T.extract 0 m = str (txt (i.natAbs / 10 ^ s)) ∧ beh s i.natAbs = []) := by
    refine ⟨?_, by rw [hw]; rfl⟩
    rw [hw, extract_to, HT.out, Nat.pow_zero, Nat.div_one, hm, HSZ.out, List.take_of_length_le (by rw [hK]; exact Nat.le_refl _)]
  clear hp hm
  clear h hsg hσ hT hw
  go_enter Tryz.func27, Tryz.ntmps27
  go_wp2_with fail
  generalize hW : World.alloc w _ = W0
  have E0 : St w W0 [(A, n, c, i.natAbs)] [(w.heap.size, .bool (ngB i), .slice A n c, .int .i64 (s : Int))] := by rw [← hW]; exact (start_one H.out).lay rfl
  have E := Lib.hid E0
  clear hW E0
  obtain ⟨p0, p1, p2, pf0, pf1, pf2, plt⟩ := St.at_ (x0 := .bool (ngB i)) (x1 := .slice A n c) (x2 := .int .i64 (s : Int)) (g := w.heap.size) E (by simp)
  go_wp2_with fail
  refine (CS.out _ (St.got E (by simp))).mono ?_; rintro e w1 ⟨rfl, hb1⟩; replace E := Lib.hid (St.step E.out hb1); clear hb1 p0 p1 p2 pf0 pf1 pf2 plt
  obtain ⟨p0, p1, p2, pf0, pf1, pf2, plt⟩ := St.at_ (x0 := .bool (ngB i)) (x1 := .slice A n c) (x2 := .int .i64 (s : Int)) (g := w.heap.size) E (by simp)
  go_wp2_with fail
  refine (CT.out _ (St.got E (by simp))).mono ?_; rintro e w2 ⟨rfl, hb1⟩; replace E := Lib.hid (St.step E.out hb1); clear hb1 p0 p1 p2 pf0 pf1 pf2 plt
  go_wp2_with fail
  go_quiet (fail)
  go_wp2_with fail
  go_ret3
  exact ⟨by rw [HS.out, ← HE.out.1, HE.out.2]; rfl, E.out.bel.trans (Below.of_quiet.mono E.out.bel.size)⟩

set_option maxRecDepth 100000 in
set_option maxHeartbeats 2000000 in
theorem split_small0 (A : Option Addr) (n c s : Nat) (i : Int) (w : World) (h : Num w w.heap.size A n c i.natAbs) (hn : n ≤ 1000) (hs : s ≤ 1000) (hsg : ¬ i < 0) (hw : nd i.natAbs ≤ s) :
    Calls Tryz.prog 27 #[.agg #[.bool (ngB i), .slice A n c, .int .i64 (s : Int)]] w (RetSplit w i s) := by
  have H := Lib.hid h
  have hnd : nd i.natAbs ≤ 10000 := by have := nd_le_len h.len; omega
  have hsx := max_zero (P := Tryz.prog) (s := s)
  have hs0 : (0 : Int) ≤ (s : Int) := by omega
  have HS : Hid (sgT i = []) := by show _ = _; unfold sgT; rw [if_neg hsg]
  obtain ⟨σ, hσ⟩ : ∃ σ, σ = i.sign := ⟨_, rfl⟩
  have hσ0 : 0 ≤ σ := by rw [hσ]; exact sign_ge hsg
  have CS : Hid (∀ w', Num w' w'.heap.size A n c i.natAbs → Calls Tryz.prog 45 #[.agg #[.bool (ngB i), .slice A n c, .int .i64 (s : Int)]] w' (RetVal w' (.int .i64 σ))) := by rw [hσ]; exact fun w' h' => sign_any A n c s i w' h'
  have CT : Hid (∀ w', Num w' w'.heap.size A n c i.natAbs → Calls Tryz.prog 46 #[.slice A n c] w' (RetVal w' (.string (str (txt i.natAbs))))) := fun w' h' => text_any A n c i.natAbs _ w' h' (Nat.le_refl _) (by omega)
  have HSZ := Lib.hid (txt_size i.natAbs)
  obtain ⟨T, hT⟩ : ∃ T, T = str (txt i.natAbs) := ⟨_, rfl⟩
  rw [← hT] at CT HSZ
  have HT : Hid (codes T = txt i.natAbs) := by show _ = _; rw [hT, codes_str (txt_bytes _)]
  obtain ⟨K, hK⟩ : ∃ K, K = nd i.natAbs := ⟨_, rfl⟩
  rw [← hK] at HSZ hnd
  obtain ⟨h1, h2⟩ := beh_small hw
  rw [← hK] at hw h1
  obtain ⟨k, hk⟩ : ∃ k, k = s - K := ⟨_, rfl⟩
  rw [← hk] at h1
  have HE : Hid (beh s i.natAbs = 46 :: (List.replicate k 48 ++ txt i.natAbs) ∧ txt (i.natAbs / 10 ^ s) = [48]) := ⟨h1, h2⟩
  have ek : (s : Int) - (T.size : Int) = (k : Int) := by rw [HSZ.out]; omega
  have hkb : k ≤ 1000 := by omega
  have CR := Lib.hid (fun w' => srepeat_any k w' (by omega))
  obtain ⟨R, hR⟩ : ∃ R, R = str (List.replicate k 48) := ⟨_, rfl⟩
  rw [← hR] at CR
  have hRc : codes R = List.replicate k 48 := by rw [hR, codes_str]; intro x hx; rw [(List.mem_replicate.1 hx).2]; omega
  have hRs : R.size = k := by rw [← codes_len, hRc, List.length_replicate]
  have ha1 : ∀ w', (Op.stringOp .add ⟨#[46]⟩ R).run Tryz.prog w' = .ok (.string (str (46 :: List.replicate k 48))) w' := fun w' => str_add7 (by rw [hRc]; rfl) (by show 1 + R.size ≤ _; omega) w'
  obtain ⟨R1, hR1⟩ : ∃ R1, R1 = str (46 :: List.replicate k 48) := ⟨_, rfl⟩
  rw [← hR1] at ha1
  have hR1c : codes R1 = 46 :: List.replicate k 48 := by
    rw [hR1, codes_str]; intro x hx
    rcases List.mem_cons.1 hx with rfl | hx
    · omega
    · rw [(List.mem_replicate.1 hx).2]; omega
  have hR1s : R1.size = k + 1 := by rw [← codes_len, hR1c, List.length_cons, List.length_replicate]
  have ha2 : ∀ w', (Op.stringOp .add R1 T).run Tryz.prog w' = .ok (.string (str (beh s i.natAbs))) w' := fun w' => str_add7 (by rw [hR1c, HT.out, HE.out.1]; rfl) (by rw [hR1s, HSZ.out]; omega) w'
  clear hR hRc hRs hR1 hR1c hR1s h1 h2 hk
  clear h hsg hσ hT hw
  go_enter Tryz.func27, Tryz.ntmps27
  go_wp2_with fail
  generalize hW : World.alloc w _ = W0
  have E0 : St w W0 [(A, n, c, i.natAbs)] [(w.heap.size, .bool (ngB i), .slice A n c, .int .i64 (s : Int))] := by rw [← hW]; exact (start_one H.out).lay rfl
  have E := Lib.hid E0
  clear hW E0
  obtain ⟨p0, p1, p2, pf0, pf1, pf2, plt⟩ := St.at_ (x0 := .bool (ngB i)) (x1 := .slice A n c) (x2 := .int .i64 (s : Int)) (g := w.heap.size) E (by simp)
  go_wp2_with fail
  refine (CS.out _ (St.got E (by simp))).mono ?_; rintro e w1 ⟨rfl, hb1⟩; replace E := Lib.hid (St.step E.out hb1); clear hb1 p0 p1 p2 pf0 pf1 pf2 plt
  obtain ⟨p0, p1, p2, pf0, pf1, pf2, plt⟩ := St.at_ (x0 := .bool (ngB i)) (x1 := .slice A n c) (x2 := .int .i64 (s : Int)) (g := w.heap.size) E (by simp)
  go_wp2_with fail
  refine (CT.out _ (St.got E (by simp))).mono ?_; rintro e w2 ⟨rfl, hb1⟩; replace E := Lib.hid (St.step E.out hb1); clear hb1 p0 p1 p2 pf0 pf1 pf2 plt
  go_wp2_with fail
  refine (CR.out _).mono ?_; rintro e w3 ⟨rfl, hb1⟩; replace E := Lib.hid (St.step E.out hb1); clear hb1
  go_wp2_with fail
  go_ret3
  exact ⟨by rw [HS.out, HE.out.2]; rfl, E.out.bel⟩

set_option maxRecDepth 100000 in
set_option maxHeartbeats 2000000 in
theorem split_large0 (A : Option Addr) (n c s : Nat) (i : Int) (w : World) (h : Num w w.heap.size A n c i.natAbs) (hn : n ≤ 1000) (hs : s ≤ 1000) (hsg : ¬ i < 0) (hw : s < nd i.natAbs) (h0 : 0 < s) :
    Calls Tryz.prog 27 #[.agg #[.bool (ngB i), .slice A n c, .int .i64 (s : Int)]] w (RetSplit w i s) := by
  have H := Lib.hid h
  have hnd : nd i.natAbs ≤ 10000 := by have := nd_le_len h.len; omega
  have hsx := max_zero (P := Tryz.prog) (s := s)
  have hs0 : (0 : Int) ≤ (s : Int) := by omega
  have HS : Hid (sgT i = []) := by show _ = _; unfold sgT; rw [if_neg hsg]
  obtain ⟨σ, hσ⟩ : ∃ σ, σ = i.sign := ⟨_, rfl⟩
  have hσ0 : 0 ≤ σ := by rw [hσ]; exact sign_ge hsg
  have CS : Hid (∀ w', Num w' w'.heap.size A n c i.natAbs → Calls Tryz.prog 45 #[.agg #[.bool (ngB i), .slice A n c, .int .i64 (s : Int)]] w' (RetVal w' (.int .i64 σ))) := by rw [hσ]; exact fun w' h' => sign_any A n c s i w' h'
  have CT : Hid (∀ w', Num w' w'.heap.size A n c i.natAbs → Calls Tryz.prog 46 #[.slice A n c] w' (RetVal w' (.string (str (txt i.natAbs))))) := fun w' h' => text_any A n c i.natAbs _ w' h' (Nat.le_refl _) (by omega)
  have HSZ := Lib.hid (txt_size i.natAbs)
  obtain ⟨T, hT⟩ : ∃ T, T = str (txt i.natAbs) := ⟨_, rfl⟩
  rw [← hT] at CT HSZ
  have HT : Hid (codes T = txt i.natAbs) := by show _ = _; rw [hT, codes_str (txt_bytes _)]
  obtain ⟨K, hK⟩ : ∃ K, K = nd i.natAbs := ⟨_, rfl⟩
  rw [← hK] at HSZ hnd
  have h1 := beh_large hw h0
  have h2 := take_txt s i.natAbs hw
  rw [← hK] at hw h1 h2
  obtain ⟨m, hm⟩ : ∃ m, m = K - s := ⟨_, rfl⟩
  rw [← hm] at h1 h2
  have em0 : (s : Int) - (T.size : Int) < 0 := by rw [HSZ.out]; omega
  have em : (T.size : Int) - (s : Int) = (m : Int) := by rw [HSZ.out]; omega
  have hmT : m ≤ T.size := by rw [HSZ.out]; omega
  have hTb : T.size ≤ 10000 := by rw [HSZ.out]; exact hnd
  have hX : codes (T.extract m T.size) = (txt i.natAbs).drop m := by
    rw [extract_from T m _ rfl, HT.out, codes_str]
    intro x hx; exact txt_bytes _ x (List.mem_of_mem_drop hx)
  have HE : Hid (T.extract 0 m = str (txt (i.natAbs / 10 ^ s))) := by show _ = _; rw [extract_to, HT.out, h2]
  have ha1 : ∀ w', (Op.stringOp .add ⟨#[46]⟩ (T.extract m T.size)).run Tryz.prog w' = .ok (.string (str (beh s i.natAbs))) w' := fun w' => str_add7 (by rw [hX, h1]; rfl) (by rw [ByteArray.size_extract]; show 1 + _ ≤ _; omega) w'
  have hs1 : (0 : Int) < (s : Int) := by omega
  clear hX h1 h2 hm h0
  clear h hsg hσ hT hw
  go_enter Tryz.func27, Tryz.ntmps27
  go_wp2_with fail
  generalize hW : World.alloc w _ = W0
  have E0 : St w W0 [(A, n, c, i.natAbs)] [(w.heap.size, .bool (ngB i), .slice A n c, .int .i64 (s : Int))] := by rw [← hW]; exact (start_one H.out).lay rfl
  have E := Lib.hid E0
  clear hW E0
  obtain ⟨p0, p1, p2, pf0, pf1, pf2, plt⟩ := St.at_ (x0 := .bool (ngB i)) (x1 := .slice A n c) (x2 := .int .i64 (s : Int)) (g := w.heap.size) E (by simp)
  go_wp2_with fail
  refine (CS.out _ (St.got E (by simp))).mono ?_; rintro e w1 ⟨rfl, hb1⟩; replace E := Lib.hid (St.step E.out hb1); clear hb1 p0 p1 p2 pf0 pf1 pf2 plt
  obtain ⟨p0, p1, p2, pf0, pf1, pf2, plt⟩ := St.at_ (x0 := .bool (ngB i)) (x1 := .slice A n c) (x2 := .int .i64 (s : Int)) (g := w.heap.size) E (by simp)
  go_wp2_with fail
  refine (CT.out _ (St.got E (by simp))).mono ?_; rintro e w2 ⟨rfl, hb1⟩; replace E := Lib.hid (St.step E.out hb1); clear hb1 p0 p1 p2 pf0 pf1 pf2 plt
  go_wp2_with fail
  go_quiet (fail)
  go_wp2_with fail
  go_ret3
  exact ⟨by rw [HS.out, ← HE.out]; rfl, E.out.bel.trans (Below.of_quiet.mono E.out.bel.size)⟩

set_option maxRecDepth 100000 in
set_option maxHeartbeats 2000000 in
theorem split_whole0 (A : Option Addr) (n c s : Nat) (i : Int) (w : World) (h : Num w w.heap.size A n c i.natAbs) (hn : n ≤ 1000) (hs : s ≤ 1000) (hsg : ¬ i < 0) (hw : s = 0) :
    Calls Tryz.prog 27 #[.agg #[.bool (ngB i), .slice A n c, .int .i64 (s : Int)]] w (RetSplit w i s) := by
  have H := Lib.hid h
  have hnd : nd i.natAbs ≤ 10000 := by have := nd_le_len h.len; omega
  have hsx := max_zero (P := Tryz.prog) (s := s)
  have hs0 : (0 : Int) ≤ (s : Int) := by omega
  have HS : Hid (sgT i = []) := by show _ = _; unfold sgT; rw [if_neg hsg]
  obtain ⟨σ, hσ⟩ : ∃ σ, σ = i.sign := ⟨_, rfl⟩
  have hσ0 : 0 ≤ σ := by rw [hσ]; exact sign_ge hsg
  have CS : Hid (∀ w', Num w' w'.heap.size A n c i.natAbs → Calls Tryz.prog 45 #[.agg #[.bool (ngB i), .slice A n c, .int .i64 (s : Int)]] w' (RetVal w' (.int .i64 σ))) := by rw [hσ]; exact fun w' h' => sign_any A n c s i w' h'
  have CT : Hid (∀ w', Num w' w'.heap.size A n c i.natAbs → Calls Tryz.prog 46 #[.slice A n c] w' (RetVal w' (.string (str (txt i.natAbs))))) := fun w' h' => text_any A n c i.natAbs _ w' h' (Nat.le_refl _) (by omega)
  have HSZ := Lib.hid (txt_size i.natAbs)
  obtain ⟨T, hT⟩ : ∃ T, T = str (txt i.natAbs) := ⟨_, rfl⟩
  rw [← hT] at CT HSZ
  have HT : Hid (codes T = txt i.natAbs) := by show _ = _; rw [hT, codes_str (txt_bytes _)]
  obtain ⟨K, hK⟩ : ∃ K, K = nd i.natAbs := ⟨_, rfl⟩
  rw [← hK] at HSZ hnd
  have hp := nd_pos i.natAbs
  rw [← hK] at hp
  obtain ⟨m, hm⟩ : ∃ m, m = T.size := ⟨_, rfl⟩
  have em0 : (s : Int) - (T.size : Int) < 0 := by rw [HSZ.out]; omega
  have em : (T.size : Int) - (s : Int) = (m : Int) := by omega
  have hmT : m ≤ T.size := by omega
  have hs1 : (s : Int) ≤ 0 := by omega
  have hTb : T.size ≤ 10000 := by rw [HSZ.out]; exact hnd
  have HE : Hid (T.extract 0 m = str (txt (i.natAbs / 10 ^ s)) ∧ beh s i.natAbs = []) := by
    refine ⟨?_, by rw [hw]; rfl⟩
    rw [hw, extract_to, HT.out, Nat.pow_zero, Nat.div_one, hm, HSZ.out, List.take_of_length_le (by rw [hK]; exact Nat.le_refl _)]
  clear hp hm
  clear h hsg hσ hT hw
  go_enter Tryz.func27, Tryz.ntmps27
  go_wp2_with fail
  generalize hW : World.alloc w _ = W0
  have E0 : St w W0 [(A, n, c, i.natAbs)] [(w.heap.size, .bool (ngB i), .slice A n c, .int .i64 (s : Int))] := by rw [← hW]; exact (start_one H.out).lay rfl
  have E := Lib.hid E0
  clear hW E0
  obtain ⟨p0, p1, p2, pf0, pf1, pf2, plt⟩ := St.at_ (x0 := .bool (ngB i)) (x1 := .slice A n c) (x2 := .int .i64 (s : Int)) (g := w.heap.size) E (by simp)
  go_wp2_with fail
  refine (CS.out _ (St.got E (by simp))).mono ?_; rintro e w1 ⟨rfl, hb1⟩; replace E := Lib.hid (St.step E.out hb1); clear hb1 p0 p1 p2 pf0 pf1 pf2 plt
  obtain ⟨p0, p1, p2, pf0, pf1, pf2, plt⟩ := St.at_ (x0 := .bool (ngB i)) (x1 := .slice A n c) (x2 := .int .i64 (s : Int)) (g := w.heap.size) E (by simp)
  go_wp2_with fail
  refine (CT.out _ (St.got E (by simp))).mono ?_; rintro e w2 ⟨rfl, hb1⟩; replace E := Lib.hid (St.step E.out hb1); clear hb1 p0 p1 p2 pf0 pf1 pf2 plt
  go_wp2_with fail
  go_quiet (fail)
  go_wp2_with fail
  go_ret3
  exact ⟨by rw [HS.out, ← HE.out.1, HE.out.2]; rfl, E.out.bel.trans (Below.of_quiet.mono E.out.bel.size)⟩

theorem split_any {A : Option Addr} {n c s : Nat} {i : Int} {w : World} (h : Num w w.heap.size A n c i.natAbs) (hn : n ≤ 1000) (hs : s ≤ 1000) :
    Calls Tryz.prog 27 #[.agg #[.bool (ngB i), .slice A n c, .int .i64 (s : Int)]] w (RetSplit w i s) := by
  by_cases hsg : i < 0
  · rcases Nat.lt_or_ge s (nd i.natAbs) with h1 | h1
    · rcases Nat.eq_zero_or_pos s with h0 | h0
      · exact split_whole1 A n c s i w h hn hs hsg h0
      · exact split_large1 A n c s i w h hn hs hsg h1 h0
    · exact split_small1 A n c s i w h hn hs hsg h1
  · rcases Nat.lt_or_ge s (nd i.natAbs) with h1 | h1
    · rcases Nat.eq_zero_or_pos s with h0 | h0
      · exact split_whole0 A n c s i w h hn hs hsg h0
      · exact split_large0 A n c s i w h hn hs hsg h1 h0
    · exact split_small0 A n c s i w h hn hs hsg h1

end Go.Proofs.YtllcjahekckbfaaGreatDoor
