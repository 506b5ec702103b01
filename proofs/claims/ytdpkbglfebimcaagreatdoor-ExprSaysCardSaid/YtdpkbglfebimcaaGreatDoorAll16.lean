/- What the proof needs, texts DatJ, DatK, in one text. -/
import Derived.Test.YtdpkbglfebimcaaGreatDoorAll12
import Derived.Lib.ItoaLen
import Derived.Lib.Repeat
set_option linter.unusedVariables false
set_option linter.unusedSimpArgs false
set_option maxRecDepth 100000
set_option maxHeartbeats 32000000
namespace Go.Proofs.YtdpkbglfebimcaaGreatDoor.Dat
open Go.RowKit
def isd8 (c : UInt8) : Bool := decide (48 ≤ c.toNat) && decide (c.toNat ≤ 57)
def nmv8 (l : List UInt8) : Nat := l.foldl (fun v c => v * 10 + (c.toNat - 48)) 0
def nm8 (l : List UInt8) : Int := if l.all isd8 = true then (nmv8 l : Int) else -1
theorem nmv8_snoc (l : List UInt8) (c : UInt8) : nmv8 (l ++ [c]) = nmv8 l * 10 + (c.toNat - 48) := by unfold nmv8; rw [List.foldl_append]; rfl
theorem nmv8_lt : ∀ (k : Nat) (l : List UInt8), l.length = k → l.all isd8 = true → nmv8 l < 10 ^ k
 | 0, l, h, _ => by obtain rfl := List.eq_nil_of_length_eq_zero h; decide
 | k + 1, l, h, ha => by
  have hne : l ≠ [] := fun e => by rw [e] at h; simp at h
  obtain ⟨l', c, rfl⟩ : ∃ l' c, l = l' ++ [c] := ⟨l.dropLast, l.getLast hne, (List.dropLast_concat_getLast hne).symm⟩
  rw [List.all_append, Bool.and_eq_true_iff] at ha
  have := nmv8_lt k l' (by simp at h; exact h) ha.1
  have hc : isd8 c = true := by simpa using ha.2
  unfold isd8 at hc
  rw [Bool.and_eq_true_iff, decide_eq_true_iff, decide_eq_true_iff] at hc
  rw [nmv8_snoc, Nat.pow_succ]
  omega
theorem mem8 (s : ByteArray) (k : Nat) (h : k < s.size) : s[k] ∈ s.data.toList := Array.mem_toList_iff.2 (Array.getElem_mem h)
theorem take_snoc8 (s : ByteArray) (k : Nat) (h : k < s.size) : s.data.toList.take (k + 1) = s.data.toList.take k ++ [s[k]] := by
 rw [List.take_succ_eq_append_getElem (by simpa using h)]; rfl
theorem number_any (s : ByteArray) (w : World) (hs : s.size ≤ 10) : Calls Tryz.prog 181 #[.string s] w fun e w' => e = .returned (.int .i64 (nm8 s.data.toList)) ∧ w' = w := by
 have HL : Hid (∀ k, k ≤ 10 → (10 : Nat) ^ k ≤ 10000000000) := fun k hk => Nat.pow_le_pow_right (n := 10) (by omega) hk
 go_enter Tryz.func181, Tryz.ntmps181
 go_wp2
 go_loop [3, 7] (fun n i => ∃ k : Nat, k ≤ s.size ∧ i = .int .i64 (k : Int) ∧ (s.data.toList.take k).all isd8 = true ∧ n = .int .i64 (nmv8 (s.data.toList.take k) : Int)) (fun _ i => s.size - (intOf i).toNat)
 case atStart => exact ⟨0, Nat.zero_le _, rfl, rfl, rfl⟩
 case round =>
  obtain ⟨k, hk, rfl, hall, rfl⟩ := hrel
  have hv : nmv8 (s.data.toList.take k) ≤ 10000000000 := by
   have h1 := nmv8_lt _ _ rfl hall
   have h2 : (s.data.toList.take k).length ≤ 10 := Nat.le_trans (List.length_take_le _ _) (by omega)
   have := HL.out _ h2
   omega
  have HA := Lib.hid hall
  clear hall
  by_cases hlt : k < s.size
  ·have hts := take_snoc8 s k hlt
   obtain ⟨c, hc⟩ : ∃ c : Nat, (s[k]'hlt).toNat = c := ⟨_, rfl⟩
   have HT := Lib.hid hts
   clear hts
   by_cases h1 : c < 48
   ·have HN : Hid (nm8 s.data.toList = -1) := by
     show _ = _; unfold nm8; rw [if_neg]
     intro h
     have h3 : isd8 (s[k]'hlt) = true := List.all_eq_true.1 h _ (mem8 s k hlt)
     unfold isd8 at h3; rw [hc] at h3; simp at h3; omega
    have d1 : decide ((c : Int) < 48) = true := decide_eq_true (by omega)
    clear h1
    go_wp2
    go_ret
    exact ⟨ri8 HN.out.symm, rfl⟩
   ·by_cases h2 : 57 < c
    ·have HN : Hid (nm8 s.data.toList = -1) := by
      show _ = _; unfold nm8; rw [if_neg]
      intro h
      have h3 : isd8 (s[k]'hlt) = true := List.all_eq_true.1 h _ (mem8 s k hlt)
      unfold isd8 at h3; rw [hc] at h3; simp at h3; omega
     go_wp2
     go_ret
     exact ⟨ri8 HN.out.symm, rfl⟩
    ·have HS : Hid ((s.data.toList.take (k + 1)).all isd8 = true ∧ nmv8 (s.data.toList.take (k + 1)) = nmv8 (s.data.toList.take k) * 10 + (c - 48)) := by
      show _ ∧ _
      rw [HT.out, nmv8_snoc, List.all_append, hc]
      refine ⟨?_, rfl⟩
      rw [HA.out]; simp [isd8, hc]; omega
     have e1 : (c : Int) - 48 = ((c - 48 : Nat) : Int) := by omega
     obtain ⟨q, hq⟩ : ∃ q, c - 48 = q := ⟨_, rfl⟩
     have q9 : q ≤ 9 := by omega
     rw [hq] at e1 HS
     clear hq
     go_wp2
     go_round
     case rel => exact ⟨k + 1, by omega, by go_num, HS.out.1, by rw [HS.out.2]; go_num⟩
     case measure => simp [intOf]; omega
  ·have e : s.data.toList.take k = s.data.toList := List.take_of_length_le (by simp; omega)
   have HN : Hid (nm8 s.data.toList = (nmv8 (s.data.toList.take k) : Int)) := by
    show _ = _; unfold nm8
    have := HA.out
    rw [e] at this ⊢
    rw [if_pos this]
   clear e
   go_wp2
   go_ret
   exact ⟨ri8 HN.out.symm, rfl⟩
def frm8 (s : ByteArray) : Bool := if h : s.size = 10 then decide ((s[4]'(by omega)).toNat = (s[7]'(by omega)).toNat ∧ ((s[4]'(by omega)).toNat = 45 ∨ (s[4]'(by omega)).toNat = 47)) else false
def prY (s : ByteArray) : Int := nm8 (s.extract 0 4).data.toList
def prM (s : ByteArray) : Int := nm8 (s.extract 5 7).data.toList
def prD (s : ByteArray) : Int := nm8 (s.extract 8 10).data.toList
def prOk (s : ByteArray) : Bool := frm8 s && ok8 (prY s) (prM s) (prD s)
theorem ext_size (s : ByteArray) (a b : Nat) : (s.extract a b).size ≤ b := by rw [ByteArray.size_extract]; omega
theorem parse_bad0 (s : ByteArray) (hs : s.size ≤ 300) (h : s.size ≠ 10)  (w : World) (hT : Tabs w) : Calls Tryz.prog 168 #[.string s] w (Ret8 w (.tuple #[.agg #[.int .i64 (0), .int .i64 (0), .int .i64 (0)], .int .i64 3])) := by
 have HT := Lib.hid hT
 clear hT
 have n1 : ((s.size : Int) != 10) = true := by simp; omega
 have n2 : ((s.size : Int) == 10) = false := by simp; omega
 clear h
 go_enter Tryz.func168, Tryz.ntmps168
 go_wp2_with fail
 generalize hW : World.alloc w _ = W0
 have E0 : S8 w W0 [(w.heap.size, .int .i64 (0), .int .i64 (0), .int .i64 (0))] := by rw [← hW]; exact ((S8.start w HT.out).lay rfl)
 have E := Lib.hid E0
 clear hW E0
 go_quiet ((fail))
 replace E := Lib.hid (S8.drewN E.out nq)
 obtain ⟨p0, p1, p2, pf0, pf1, pf2, plt⟩ := (S8.at_ (x0 := .int .i64 (0)) (x1 := .int .i64 (0)) (x2 := .int .i64 (0)) (g := w.heap.size) E (by simp))
 go_wp2_with fail
 clear p0 p1 p2 pf0 pf1 pf2 plt
 replace E := Lib.hid (S8.store E.out (g := w.heap.size) (x0 := .int .i64 (0)) (x1 := .int .i64 (0)) (x2 := .int .i64 (0)) (by simp) (by omega) [] (fun q hq => by simp at hq ⊢; (try rcases hq with rfl <;> simp)) (.int .i64 (0)) (.int .i64 (0)) (.int .i64 (0)) (fun w_ hb => HT.out.on hb))
 obtain ⟨e0, e1, e2, _, _, _, _⟩ := (S8.at_ (x0 := .int .i64 (0)) (x1 := .int .i64 (0)) (x2 := .int .i64 (0)) (g := w.heap.size) E (by simp))
 exact bodyPost_ret (v := .tuple #[.agg #[.int .i64 (0), .int .i64 (0), .int .i64 (0)], .int .i64 3]) (by simp [results, Tryz.results168, go_sem, e0, e1, e2]) rfl ⟨rfl, E.out.bel⟩
theorem parse_bad1 (s : ByteArray) (hz : s.size = 10) (h : (s[4]'(by omega)).toNat ≠ (s[7]'(by omega)).toNat)  (w : World) (hT : Tabs w) : Calls Tryz.prog 168 #[.string s] w (Ret8 w (.tuple #[.agg #[.int .i64 (0), .int .i64 (0), .int .i64 (0)], .int .i64 3])) := by
 have HT := Lib.hid hT
 clear hT
 have hzi : (s.size : Int) = 10 := by omega
 have i4 : 4 < s.size := by omega
 have i7 : 7 < s.size := by omega
 obtain ⟨a, ha⟩ : ∃ a : Nat, (s[4]'i4).toNat = a := ⟨_, rfl⟩
 obtain ⟨b, hb⟩ : ∃ b : Nat, (s[7]'i7).toNat = b := ⟨_, rfl⟩
 rw [ha, hb] at h
 have n1 : ((a : Int) != (b : Int)) = true := by simp; omega
 have n2 : ((a : Int) == (b : Int)) = false := by simp; omega
 clear h hz
 go_enter Tryz.func168, Tryz.ntmps168
 go_wp2_with fail
 generalize hW : World.alloc w _ = W0
 have E0 : S8 w W0 [(w.heap.size, .int .i64 (0), .int .i64 (0), .int .i64 (0))] := by rw [← hW]; exact ((S8.start w HT.out).lay rfl)
 have E := Lib.hid E0
 clear hW E0
 go_quiet ((fail))
 replace E := Lib.hid (S8.drewN E.out nq)
 obtain ⟨p0, p1, p2, pf0, pf1, pf2, plt⟩ := (S8.at_ (x0 := .int .i64 (0)) (x1 := .int .i64 (0)) (x2 := .int .i64 (0)) (g := w.heap.size) E (by simp))
 go_wp2_with fail
 clear p0 p1 p2 pf0 pf1 pf2 plt
 replace E := Lib.hid (S8.store E.out (g := w.heap.size) (x0 := .int .i64 (0)) (x1 := .int .i64 (0)) (x2 := .int .i64 (0)) (by simp) (by omega) [] (fun q hq => by simp at hq ⊢; (try rcases hq with rfl <;> simp)) (.int .i64 (0)) (.int .i64 (0)) (.int .i64 (0)) (fun w_ hb => HT.out.on hb))
 obtain ⟨e0, e1, e2, _, _, _, _⟩ := (S8.at_ (x0 := .int .i64 (0)) (x1 := .int .i64 (0)) (x2 := .int .i64 (0)) (g := w.heap.size) E (by simp))
 exact bodyPost_ret (v := .tuple #[.agg #[.int .i64 (0), .int .i64 (0), .int .i64 (0)], .int .i64 3]) (by simp [results, Tryz.results168, go_sem, e0, e1, e2]) rfl ⟨rfl, E.out.bel⟩
theorem parse_bad2 (s : ByteArray) (hz : s.size = 10) (h : (s[4]'(by omega)).toNat = (s[7]'(by omega)).toNat) (h1 : (s[4]'(by omega)).toNat ≠ 45) (h2 : (s[4]'(by omega)).toNat ≠ 47)  (w : World) (hT : Tabs w) : Calls Tryz.prog 168 #[.string s] w (Ret8 w (.tuple #[.agg #[.int .i64 (0), .int .i64 (0), .int .i64 (0)], .int .i64 3])) := by
 have HT := Lib.hid hT
 clear hT
 have hzi : (s.size : Int) = 10 := by omega
 have i4 : 4 < s.size := by omega
 have i7 : 7 < s.size := by omega
 obtain ⟨a, ha⟩ : ∃ a : Nat, (s[4]'i4).toNat = a := ⟨_, rfl⟩
 rw [ha] at h h1 h2
 have hb : (s[7]'i7).toNat = a := h.symm
 have n1 : ((a : Int) != 45) = true := by simp; omega
 have n2 : ((a : Int) == 45) = false := by simp; omega
 have n3 : ((a : Int) != 47) = true := by simp; omega
 have n4 : ((a : Int) == 47) = false := by simp; omega
 clear h h1 h2 hz
 go_enter Tryz.func168, Tryz.ntmps168
 go_wp2_with fail
 generalize hW : World.alloc w _ = W0
 have E0 : S8 w W0 [(w.heap.size, .int .i64 (0), .int .i64 (0), .int .i64 (0))] := by rw [← hW]; exact ((S8.start w HT.out).lay rfl)
 have E := Lib.hid E0
 clear hW E0
 go_quiet ((fail))
 replace E := Lib.hid (S8.drewN E.out nq)
 obtain ⟨p0, p1, p2, pf0, pf1, pf2, plt⟩ := (S8.at_ (x0 := .int .i64 (0)) (x1 := .int .i64 (0)) (x2 := .int .i64 (0)) (g := w.heap.size) E (by simp))
 go_wp2_with fail
 clear p0 p1 p2 pf0 pf1 pf2 plt
 replace E := Lib.hid (S8.store E.out (g := w.heap.size) (x0 := .int .i64 (0)) (x1 := .int .i64 (0)) (x2 := .int .i64 (0)) (by simp) (by omega) [] (fun q hq => by simp at hq ⊢; (try rcases hq with rfl <;> simp)) (.int .i64 (0)) (.int .i64 (0)) (.int .i64 (0)) (fun w_ hb => HT.out.on hb))
 obtain ⟨e0, e1, e2, _, _, _, _⟩ := (S8.at_ (x0 := .int .i64 (0)) (x1 := .int .i64 (0)) (x2 := .int .i64 (0)) (g := w.heap.size) E (by simp))
 exact bodyPost_ret (v := .tuple #[.agg #[.int .i64 (0), .int .i64 (0), .int .i64 (0)], .int .i64 3]) (by simp [results, Tryz.results168, go_sem, e0, e1, e2]) rfl ⟨rfl, E.out.bel⟩
theorem parse_ok45 (s : ByteArray) (Y M D' : Int) (hz : s.size = 10) (h : (s[4]'(by omega)).toNat = (s[7]'(by omega)).toNat) (h1 : (s[4]'(by omega)).toNat = 45) (eY : prY s = Y) (eM : prM s = M) (eD : prD s = D') (hr : ok8 Y M D' = true)  (w : World) (hT : Tabs w) : Calls Tryz.prog 168 #[.string s] w (Ret8 w (.tuple #[.agg #[.int .i64 Y, .int .i64 M, .int .i64 D'], .int .i64 0])) := by
 have HT := Lib.hid hT
 clear hT
 have hzi : (s.size : Int) = 10 := by omega
 have i4 : 4 < s.size := by omega
 have i7 : 7 < s.size := by omega
 have ha : (s[4]'i4).toNat = 45 := h1
 have hb : (s[7]'i7).toNat = 45 := h.symm.trans h1
 obtain ⟨A, hA⟩ : ∃ A, s.extract 0 4 = A := ⟨_, rfl⟩
 obtain ⟨B, hB⟩ : ∃ B, s.extract 5 7 = B := ⟨_, rfl⟩
 obtain ⟨C, hC⟩ : ∃ C, s.extract 8 10 = C := ⟨_, rfl⟩
 have f1 : ∀ w', (Instr.slice 9 (.string s) none (some (.int .i64 4)) none).run Tryz.prog w' = .ok (.string A) w' := fun w' => by rw [run_slice_string_h (ht := Tryz.underlying9) (h0 := by omega) (h2 := by omega), ← hA]; rfl
 have f2 : ∀ w', (Instr.slice 9 (.string s) (some (.int .i64 5)) (some (.int .i64 7)) none).run Tryz.prog w' = .ok (.string B) w' := fun w' => by rw [run_slice_string w' _ s _ _ _ _ Tryz.underlying9 (by omega) (by omega) (by omega), ← hB]; rfl
 have f3 : ∀ w', (Instr.slice 9 (.string s) (some (.int .i64 8)) none none).run Tryz.prog w' = .ok (.string C) w' := fun w' => by rw [run_slice_string_l (ht := Tryz.underlying9) (h0 := by omega) (h1 := by omega), ← hC, hz]; rfl
 have hY : nm8 A.data.toList = Y := by rw [← hA]; exact eY
 have hM : nm8 B.data.toList = M := by rw [← hB]; exact eM
 have hD : nm8 C.data.toList = D' := by rw [← hC]; exact eD
 have CA : Hid (∀ w', Calls Tryz.prog 181 #[.string A] w' fun e w'' => e = .returned (.int .i64 Y) ∧ w'' = w') := fun w' => by rw [← hY]; exact number_any A w' (by rw [← hA]; have := ext_size s 0 4; omega)
 have CB : Hid (∀ w', Calls Tryz.prog 181 #[.string B] w' fun e w'' => e = .returned (.int .i64 M) ∧ w'' = w') := fun w' => by rw [← hM]; exact number_any B w' (by rw [← hB]; have := ext_size s 5 7; omega)
 have CC : Hid (∀ w', Calls Tryz.prog 181 #[.string C] w' fun e w'' => e = .returned (.int .i64 D') ∧ w'' = w') := fun w' => by rw [← hD]; exact number_any C w' (by rw [← hC]; have := ext_size s 8 10; omega)
 have HR := Lib.hid hr
 clear hr hz h h1 hA hB hC hY hM hD eY eM eD
 go_enter Tryz.func168, Tryz.ntmps168
 go_wp2_with fail
 generalize hW : World.alloc w _ = W0
 have E0 : S8 w W0 [(w.heap.size, .int .i64 (0), .int .i64 (0), .int .i64 (0))] := by rw [← hW]; exact ((S8.start w HT.out).lay rfl)
 have E := Lib.hid E0
 clear hW E0
 go_quiet ((fail))
 replace E := Lib.hid (S8.drewN E.out nq)
 go_wp2_with fail
 generalize hW2 : World.drewN W0 nq = W1 at E ⊢
 clear hW2
 go_region_held3 (fun _ => True) (trivial)
  (first | (go_at_call 181; (with_reducible refine (CA.out _).mono ?_); rintro e w_ ⟨rfl, rfl⟩) | (go_at_call 181; (with_reducible refine (CB.out _).mono ?_); rintro e w_ ⟨rfl, rfl⟩) | (go_at_call 181; (with_reducible refine (CC.out _).mono ?_); rintro e w_ ⟨rfl, rfl⟩))
 all_goals
  go_wp2_with fail
  replace E := Lib.hid (S8.lay (t := 180) (x0 := .int .i64 Y) (x1 := .int .i64 M) (x2 := .int .i64 D') (g := W1.heap.size) E.out rfl)
  replace E := Lib.hid (S8.drew E.out)
  generalize hW2 : World.drew (World.alloc W1 _) = W2 at E ⊢
  clear hW2
  refine (right_is E.out.tab HR.out).mono ?_; rintro e w1 ⟨rfl, hb⟩; replace E := Lib.hid (S8.step E.out hb); clear hb
  obtain ⟨p0, p1, p2, pf0, pf1, pf2, plt⟩ := (S8.at_ (x0 := .int .i64 Y) (x1 := .int .i64 M) (x2 := .int .i64 D') (g := W1.heap.size) E (by simp))
  obtain ⟨q0, q1, q2, qf0, qf1, qf2, qlt⟩ := (S8.at_ (x0 := .int .i64 (0)) (x1 := .int .i64 (0)) (x2 := .int .i64 (0)) (g := w.heap.size) E (by simp))
  go_wp2_with fail
  clear p0 p1 p2 pf0 pf1 pf2 plt q0 q1 q2 qf0 qf1 qf2 qlt
  replace E : Hid (S8 w w1 [(w.heap.size, .int .i64 (0), .int .i64 (0), .int .i64 (0))]) := Lib.hid (S8.sub E.out (fun q hq => by simp at hq ⊢; (try rcases hq with rfl <;> simp)))
  replace E := Lib.hid (S8.store E.out (g := w.heap.size) (x0 := .int .i64 (0)) (x1 := .int .i64 (0)) (x2 := .int .i64 (0)) (by simp) (by omega) [] (fun q hq => by simp at hq ⊢; (try rcases hq with rfl <;> simp)) (.int .i64 Y) (.int .i64 M) (.int .i64 D') (fun w_ hb => HT.out.on hb))
  obtain ⟨e0, e1, e2, _, _, _, _⟩ := (S8.at_ (x0 := .int .i64 Y) (x1 := .int .i64 M) (x2 := .int .i64 D') (g := w.heap.size) E (by simp))
  exact bodyPost_ret (v := .tuple #[.agg #[.int .i64 Y, .int .i64 M, .int .i64 D'], .int .i64 0]) (by simp [results, Tryz.results168, go_sem, e0, e1, e2]) rfl ⟨rfl, E.out.bel⟩
theorem parse_no45 (s : ByteArray) (Y M D' : Int) (hz : s.size = 10) (h : (s[4]'(by omega)).toNat = (s[7]'(by omega)).toNat) (h1 : (s[4]'(by omega)).toNat = 45) (eY : prY s = Y) (eM : prM s = M) (eD : prD s = D') (hr : ok8 Y M D' = false)  (w : World) (hT : Tabs w) : Calls Tryz.prog 168 #[.string s] w (Ret8 w (.tuple #[.agg #[.int .i64 (0), .int .i64 (0), .int .i64 (0)], .int .i64 3])) := by
 have HT := Lib.hid hT
 clear hT
 have hzi : (s.size : Int) = 10 := by omega
 have i4 : 4 < s.size := by omega
 have i7 : 7 < s.size := by omega
 have ha : (s[4]'i4).toNat = 45 := h1
 have hb : (s[7]'i7).toNat = 45 := h.symm.trans h1
 obtain ⟨A, hA⟩ : ∃ A, s.extract 0 4 = A := ⟨_, rfl⟩
 obtain ⟨B, hB⟩ : ∃ B, s.extract 5 7 = B := ⟨_, rfl⟩
 obtain ⟨C, hC⟩ : ∃ C, s.extract 8 10 = C := ⟨_, rfl⟩
 have f1 : ∀ w', (Instr.slice 9 (.string s) none (some (.int .i64 4)) none).run Tryz.prog w' = .ok (.string A) w' := fun w' => by rw [run_slice_string_h (ht := Tryz.underlying9) (h0 := by omega) (h2 := by omega), ← hA]; rfl
 have f2 : ∀ w', (Instr.slice 9 (.string s) (some (.int .i64 5)) (some (.int .i64 7)) none).run Tryz.prog w' = .ok (.string B) w' := fun w' => by rw [run_slice_string w' _ s _ _ _ _ Tryz.underlying9 (by omega) (by omega) (by omega), ← hB]; rfl
 have f3 : ∀ w', (Instr.slice 9 (.string s) (some (.int .i64 8)) none none).run Tryz.prog w' = .ok (.string C) w' := fun w' => by rw [run_slice_string_l (ht := Tryz.underlying9) (h0 := by omega) (h1 := by omega), ← hC, hz]; rfl
 have hY : nm8 A.data.toList = Y := by rw [← hA]; exact eY
 have hM : nm8 B.data.toList = M := by rw [← hB]; exact eM
 have hD : nm8 C.data.toList = D' := by rw [← hC]; exact eD
 have CA : Hid (∀ w', Calls Tryz.prog 181 #[.string A] w' fun e w'' => e = .returned (.int .i64 Y) ∧ w'' = w') := fun w' => by rw [← hY]; exact number_any A w' (by rw [← hA]; have := ext_size s 0 4; omega)
 have CB : Hid (∀ w', Calls Tryz.prog 181 #[.string B] w' fun e w'' => e = .returned (.int .i64 M) ∧ w'' = w') := fun w' => by rw [← hM]; exact number_any B w' (by rw [← hB]; have := ext_size s 5 7; omega)
 have CC : Hid (∀ w', Calls Tryz.prog 181 #[.string C] w' fun e w'' => e = .returned (.int .i64 D') ∧ w'' = w') := fun w' => by rw [← hD]; exact number_any C w' (by rw [← hC]; have := ext_size s 8 10; omega)
 have HR := Lib.hid hr
 clear hr hz h h1 hA hB hC hY hM hD eY eM eD
 go_enter Tryz.func168, Tryz.ntmps168
 go_wp2_with fail
 generalize hW : World.alloc w _ = W0
 have E0 : S8 w W0 [(w.heap.size, .int .i64 (0), .int .i64 (0), .int .i64 (0))] := by rw [← hW]; exact ((S8.start w HT.out).lay rfl)
 have E := Lib.hid E0
 clear hW E0
 go_quiet ((fail))
 replace E := Lib.hid (S8.drewN E.out nq)
 go_wp2_with fail
 generalize hW2 : World.drewN W0 nq = W1 at E ⊢
 clear hW2
 go_region_held3 (fun _ => True) (trivial)
  (first | (go_at_call 181; (with_reducible refine (CA.out _).mono ?_); rintro e w_ ⟨rfl, rfl⟩) | (go_at_call 181; (with_reducible refine (CB.out _).mono ?_); rintro e w_ ⟨rfl, rfl⟩) | (go_at_call 181; (with_reducible refine (CC.out _).mono ?_); rintro e w_ ⟨rfl, rfl⟩))
 all_goals
  go_wp2_with fail
  replace E := Lib.hid (S8.lay (t := 180) (x0 := .int .i64 Y) (x1 := .int .i64 M) (x2 := .int .i64 D') (g := W1.heap.size) E.out rfl)
  replace E := Lib.hid (S8.drew E.out)
  generalize hW2 : World.drew (World.alloc W1 _) = W2 at E ⊢
  clear hW2
  refine (right_is E.out.tab HR.out).mono ?_; rintro e w1 ⟨rfl, hb⟩; replace E := Lib.hid (S8.step E.out hb); clear hb
  obtain ⟨p0, p1, p2, pf0, pf1, pf2, plt⟩ := (S8.at_ (x0 := .int .i64 Y) (x1 := .int .i64 M) (x2 := .int .i64 D') (g := W1.heap.size) E (by simp))
  obtain ⟨q0, q1, q2, qf0, qf1, qf2, qlt⟩ := (S8.at_ (x0 := .int .i64 (0)) (x1 := .int .i64 (0)) (x2 := .int .i64 (0)) (g := w.heap.size) E (by simp))
  go_wp2_with fail
  clear p0 p1 p2 pf0 pf1 pf2 plt q0 q1 q2 qf0 qf1 qf2 qlt
  replace E : Hid (S8 w w1 [(w.heap.size, .int .i64 (0), .int .i64 (0), .int .i64 (0))]) := Lib.hid (S8.sub E.out (fun q hq => by simp at hq ⊢; (try rcases hq with rfl <;> simp)))
  replace E := Lib.hid (S8.store E.out (g := w.heap.size) (x0 := .int .i64 (0)) (x1 := .int .i64 (0)) (x2 := .int .i64 (0)) (by simp) (by omega) [] (fun q hq => by simp at hq ⊢; (try rcases hq with rfl <;> simp)) (.int .i64 (0)) (.int .i64 (0)) (.int .i64 (0)) (fun w_ hb => HT.out.on hb))
  obtain ⟨e0, e1, e2, _, _, _, _⟩ := (S8.at_ (x0 := .int .i64 (0)) (x1 := .int .i64 (0)) (x2 := .int .i64 (0)) (g := w.heap.size) E (by simp))
  exact bodyPost_ret (v := .tuple #[.agg #[.int .i64 (0), .int .i64 (0), .int .i64 (0)], .int .i64 3]) (by simp [results, Tryz.results168, go_sem, e0, e1, e2]) rfl ⟨rfl, E.out.bel⟩
theorem parse_ok47 (s : ByteArray) (Y M D' : Int) (hz : s.size = 10) (h : (s[4]'(by omega)).toNat = (s[7]'(by omega)).toNat) (h1 : (s[4]'(by omega)).toNat = 47) (eY : prY s = Y) (eM : prM s = M) (eD : prD s = D') (hr : ok8 Y M D' = true)  (w : World) (hT : Tabs w) : Calls Tryz.prog 168 #[.string s] w (Ret8 w (.tuple #[.agg #[.int .i64 Y, .int .i64 M, .int .i64 D'], .int .i64 0])) := by
 have HT := Lib.hid hT
 clear hT
 have hzi : (s.size : Int) = 10 := by omega
 have i4 : 4 < s.size := by omega
 have i7 : 7 < s.size := by omega
 have ha : (s[4]'i4).toNat = 47 := h1
 have hb : (s[7]'i7).toNat = 47 := h.symm.trans h1
 obtain ⟨A, hA⟩ : ∃ A, s.extract 0 4 = A := ⟨_, rfl⟩
 obtain ⟨B, hB⟩ : ∃ B, s.extract 5 7 = B := ⟨_, rfl⟩
 obtain ⟨C, hC⟩ : ∃ C, s.extract 8 10 = C := ⟨_, rfl⟩
 have f1 : ∀ w', (Instr.slice 9 (.string s) none (some (.int .i64 4)) none).run Tryz.prog w' = .ok (.string A) w' := fun w' => by rw [run_slice_string_h (ht := Tryz.underlying9) (h0 := by omega) (h2 := by omega), ← hA]; rfl
 have f2 : ∀ w', (Instr.slice 9 (.string s) (some (.int .i64 5)) (some (.int .i64 7)) none).run Tryz.prog w' = .ok (.string B) w' := fun w' => by rw [run_slice_string w' _ s _ _ _ _ Tryz.underlying9 (by omega) (by omega) (by omega), ← hB]; rfl
 have f3 : ∀ w', (Instr.slice 9 (.string s) (some (.int .i64 8)) none none).run Tryz.prog w' = .ok (.string C) w' := fun w' => by rw [run_slice_string_l (ht := Tryz.underlying9) (h0 := by omega) (h1 := by omega), ← hC, hz]; rfl
 have hY : nm8 A.data.toList = Y := by rw [← hA]; exact eY
 have hM : nm8 B.data.toList = M := by rw [← hB]; exact eM
 have hD : nm8 C.data.toList = D' := by rw [← hC]; exact eD
 have CA : Hid (∀ w', Calls Tryz.prog 181 #[.string A] w' fun e w'' => e = .returned (.int .i64 Y) ∧ w'' = w') := fun w' => by rw [← hY]; exact number_any A w' (by rw [← hA]; have := ext_size s 0 4; omega)
 have CB : Hid (∀ w', Calls Tryz.prog 181 #[.string B] w' fun e w'' => e = .returned (.int .i64 M) ∧ w'' = w') := fun w' => by rw [← hM]; exact number_any B w' (by rw [← hB]; have := ext_size s 5 7; omega)
 have CC : Hid (∀ w', Calls Tryz.prog 181 #[.string C] w' fun e w'' => e = .returned (.int .i64 D') ∧ w'' = w') := fun w' => by rw [← hD]; exact number_any C w' (by rw [← hC]; have := ext_size s 8 10; omega)
 have HR := Lib.hid hr
 clear hr hz h h1 hA hB hC hY hM hD eY eM eD
 go_enter Tryz.func168, Tryz.ntmps168
 go_wp2_with fail
 generalize hW : World.alloc w _ = W0
 have E0 : S8 w W0 [(w.heap.size, .int .i64 (0), .int .i64 (0), .int .i64 (0))] := by rw [← hW]; exact ((S8.start w HT.out).lay rfl)
 have E := Lib.hid E0
 clear hW E0
 go_quiet ((fail))
 replace E := Lib.hid (S8.drewN E.out nq)
 go_wp2_with fail
 generalize hW2 : World.drewN W0 nq = W1 at E ⊢
 clear hW2
 go_region_held3 (fun _ => True) (trivial)
  (first | (go_at_call 181; (with_reducible refine (CA.out _).mono ?_); rintro e w_ ⟨rfl, rfl⟩) | (go_at_call 181; (with_reducible refine (CB.out _).mono ?_); rintro e w_ ⟨rfl, rfl⟩) | (go_at_call 181; (with_reducible refine (CC.out _).mono ?_); rintro e w_ ⟨rfl, rfl⟩))
 all_goals
  go_wp2_with fail
  replace E := Lib.hid (S8.lay (t := 180) (x0 := .int .i64 Y) (x1 := .int .i64 M) (x2 := .int .i64 D') (g := W1.heap.size) E.out rfl)
  replace E := Lib.hid (S8.drew E.out)
  generalize hW2 : World.drew (World.alloc W1 _) = W2 at E ⊢
  clear hW2
  refine (right_is E.out.tab HR.out).mono ?_; rintro e w1 ⟨rfl, hb⟩; replace E := Lib.hid (S8.step E.out hb); clear hb
  obtain ⟨p0, p1, p2, pf0, pf1, pf2, plt⟩ := (S8.at_ (x0 := .int .i64 Y) (x1 := .int .i64 M) (x2 := .int .i64 D') (g := W1.heap.size) E (by simp))
  obtain ⟨q0, q1, q2, qf0, qf1, qf2, qlt⟩ := (S8.at_ (x0 := .int .i64 (0)) (x1 := .int .i64 (0)) (x2 := .int .i64 (0)) (g := w.heap.size) E (by simp))
  go_wp2_with fail
  clear p0 p1 p2 pf0 pf1 pf2 plt q0 q1 q2 qf0 qf1 qf2 qlt
  replace E : Hid (S8 w w1 [(w.heap.size, .int .i64 (0), .int .i64 (0), .int .i64 (0))]) := Lib.hid (S8.sub E.out (fun q hq => by simp at hq ⊢; (try rcases hq with rfl <;> simp)))
  replace E := Lib.hid (S8.store E.out (g := w.heap.size) (x0 := .int .i64 (0)) (x1 := .int .i64 (0)) (x2 := .int .i64 (0)) (by simp) (by omega) [] (fun q hq => by simp at hq ⊢; (try rcases hq with rfl <;> simp)) (.int .i64 Y) (.int .i64 M) (.int .i64 D') (fun w_ hb => HT.out.on hb))
  obtain ⟨e0, e1, e2, _, _, _, _⟩ := (S8.at_ (x0 := .int .i64 Y) (x1 := .int .i64 M) (x2 := .int .i64 D') (g := w.heap.size) E (by simp))
  exact bodyPost_ret (v := .tuple #[.agg #[.int .i64 Y, .int .i64 M, .int .i64 D'], .int .i64 0]) (by simp [results, Tryz.results168, go_sem, e0, e1, e2]) rfl ⟨rfl, E.out.bel⟩
theorem parse_no47 (s : ByteArray) (Y M D' : Int) (hz : s.size = 10) (h : (s[4]'(by omega)).toNat = (s[7]'(by omega)).toNat) (h1 : (s[4]'(by omega)).toNat = 47) (eY : prY s = Y) (eM : prM s = M) (eD : prD s = D') (hr : ok8 Y M D' = false)  (w : World) (hT : Tabs w) : Calls Tryz.prog 168 #[.string s] w (Ret8 w (.tuple #[.agg #[.int .i64 (0), .int .i64 (0), .int .i64 (0)], .int .i64 3])) := by
 have HT := Lib.hid hT
 clear hT
 have hzi : (s.size : Int) = 10 := by omega
 have i4 : 4 < s.size := by omega
 have i7 : 7 < s.size := by omega
 have ha : (s[4]'i4).toNat = 47 := h1
 have hb : (s[7]'i7).toNat = 47 := h.symm.trans h1
 obtain ⟨A, hA⟩ : ∃ A, s.extract 0 4 = A := ⟨_, rfl⟩
 obtain ⟨B, hB⟩ : ∃ B, s.extract 5 7 = B := ⟨_, rfl⟩
 obtain ⟨C, hC⟩ : ∃ C, s.extract 8 10 = C := ⟨_, rfl⟩
 have f1 : ∀ w', (Instr.slice 9 (.string s) none (some (.int .i64 4)) none).run Tryz.prog w' = .ok (.string A) w' := fun w' => by rw [run_slice_string_h (ht := Tryz.underlying9) (h0 := by omega) (h2 := by omega), ← hA]; rfl
 have f2 : ∀ w', (Instr.slice 9 (.string s) (some (.int .i64 5)) (some (.int .i64 7)) none).run Tryz.prog w' = .ok (.string B) w' := fun w' => by rw [run_slice_string w' _ s _ _ _ _ Tryz.underlying9 (by omega) (by omega) (by omega), ← hB]; rfl
 have f3 : ∀ w', (Instr.slice 9 (.string s) (some (.int .i64 8)) none none).run Tryz.prog w' = .ok (.string C) w' := fun w' => by rw [run_slice_string_l (ht := Tryz.underlying9) (h0 := by omega) (h1 := by omega), ← hC, hz]; rfl
 have hY : nm8 A.data.toList = Y := by rw [← hA]; exact eY
 have hM : nm8 B.data.toList = M := by rw [← hB]; exact eM
 have hD : nm8 C.data.toList = D' := by rw [← hC]; exact eD
 have CA : Hid (∀ w', Calls Tryz.prog 181 #[.string A] w' fun e w'' => e = .returned (.int .i64 Y) ∧ w'' = w') := fun w' => by rw [← hY]; exact number_any A w' (by rw [← hA]; have := ext_size s 0 4; omega)
 have CB : Hid (∀ w', Calls Tryz.prog 181 #[.string B] w' fun e w'' => e = .returned (.int .i64 M) ∧ w'' = w') := fun w' => by rw [← hM]; exact number_any B w' (by rw [← hB]; have := ext_size s 5 7; omega)
 have CC : Hid (∀ w', Calls Tryz.prog 181 #[.string C] w' fun e w'' => e = .returned (.int .i64 D') ∧ w'' = w') := fun w' => by rw [← hD]; exact number_any C w' (by rw [← hC]; have := ext_size s 8 10; omega)
 have HR := Lib.hid hr
 clear hr hz h h1 hA hB hC hY hM hD eY eM eD
 go_enter Tryz.func168, Tryz.ntmps168
 go_wp2_with fail
 generalize hW : World.alloc w _ = W0
 have E0 : S8 w W0 [(w.heap.size, .int .i64 (0), .int .i64 (0), .int .i64 (0))] := by rw [← hW]; exact ((S8.start w HT.out).lay rfl)
 have E := Lib.hid E0
 clear hW E0
 go_quiet ((fail))
 replace E := Lib.hid (S8.drewN E.out nq)
 go_wp2_with fail
 generalize hW2 : World.drewN W0 nq = W1 at E ⊢
 clear hW2
 go_region_held3 (fun _ => True) (trivial)
  (first | (go_at_call 181; (with_reducible refine (CA.out _).mono ?_); rintro e w_ ⟨rfl, rfl⟩) | (go_at_call 181; (with_reducible refine (CB.out _).mono ?_); rintro e w_ ⟨rfl, rfl⟩) | (go_at_call 181; (with_reducible refine (CC.out _).mono ?_); rintro e w_ ⟨rfl, rfl⟩))
 all_goals
  go_wp2_with fail
  replace E := Lib.hid (S8.lay (t := 180) (x0 := .int .i64 Y) (x1 := .int .i64 M) (x2 := .int .i64 D') (g := W1.heap.size) E.out rfl)
  replace E := Lib.hid (S8.drew E.out)
  generalize hW2 : World.drew (World.alloc W1 _) = W2 at E ⊢
  clear hW2
  refine (right_is E.out.tab HR.out).mono ?_; rintro e w1 ⟨rfl, hb⟩; replace E := Lib.hid (S8.step E.out hb); clear hb
  obtain ⟨p0, p1, p2, pf0, pf1, pf2, plt⟩ := (S8.at_ (x0 := .int .i64 Y) (x1 := .int .i64 M) (x2 := .int .i64 D') (g := W1.heap.size) E (by simp))
  obtain ⟨q0, q1, q2, qf0, qf1, qf2, qlt⟩ := (S8.at_ (x0 := .int .i64 (0)) (x1 := .int .i64 (0)) (x2 := .int .i64 (0)) (g := w.heap.size) E (by simp))
  go_wp2_with fail
  clear p0 p1 p2 pf0 pf1 pf2 plt q0 q1 q2 qf0 qf1 qf2 qlt
  replace E : Hid (S8 w w1 [(w.heap.size, .int .i64 (0), .int .i64 (0), .int .i64 (0))]) := Lib.hid (S8.sub E.out (fun q hq => by simp at hq ⊢; (try rcases hq with rfl <;> simp)))
  replace E := Lib.hid (S8.store E.out (g := w.heap.size) (x0 := .int .i64 (0)) (x1 := .int .i64 (0)) (x2 := .int .i64 (0)) (by simp) (by omega) [] (fun q hq => by simp at hq ⊢; (try rcases hq with rfl <;> simp)) (.int .i64 (0)) (.int .i64 (0)) (.int .i64 (0)) (fun w_ hb => HT.out.on hb))
  obtain ⟨e0, e1, e2, _, _, _, _⟩ := (S8.at_ (x0 := .int .i64 (0)) (x1 := .int .i64 (0)) (x2 := .int .i64 (0)) (g := w.heap.size) E (by simp))
  exact bodyPost_ret (v := .tuple #[.agg #[.int .i64 (0), .int .i64 (0), .int .i64 (0)], .int .i64 3]) (by simp [results, Tryz.results168, go_sem, e0, e1, e2]) rfl ⟨rfl, E.out.bel⟩
theorem frm8_iff {s : ByteArray} (hz : s.size = 10) : frm8 s = true ↔ (s[4]'(by omega)).toNat = (s[7]'(by omega)).toNat ∧ ((s[4]'(by omega)).toNat = 45 ∨ (s[4]'(by omega)).toNat = 47) := by
 unfold frm8; rw [dif_pos hz, decide_eq_true_iff]
theorem parse_is {s : ByteArray} {Y M D' : Int} {w : World} (hT : Tabs w) (hf : frm8 s = true) (eY : prY s = Y) (eM : prM s = M) (eD : prD s = D') (hr : ok8 Y M D' = true) : Calls Tryz.prog 168 #[.string s] w (Ret8 w (.tuple #[.agg #[.int .i64 Y, .int .i64 M, .int .i64 D'], .int .i64 0])) := by
 have hz : s.size = 10 := by
  rcases Nat.decEq s.size 10 with h | h
  ·unfold frm8 at hf; rw [dif_neg h] at hf; cases hf
  ·exact h
 obtain ⟨h, h1 | h1⟩ := (frm8_iff hz).1 hf
 ·exact parse_ok45 s Y M D' hz h h1 eY eM eD hr w hT
 ·exact parse_ok47 s Y M D' hz h h1 eY eM eD hr w hT
theorem parse_no {s : ByteArray} {w : World} (hT : Tabs w) (hs : s.size ≤ 300) (h : prOk s = false) : Calls Tryz.prog 168 #[.string s] w (Ret8 w (.tuple #[.agg #[.int .i64 0, .int .i64 0, .int .i64 0], .int .i64 3])) := by
 by_cases hz : s.size = 10
 ·by_cases hf : frm8 s = true
  ·have hr : ok8 (prY s) (prM s) (prD s) = false := by unfold prOk at h; rw [hf] at h; exact h
   obtain ⟨h, h1 | h1⟩ := (frm8_iff hz).1 hf
   ·exact parse_no45 s _ _ _ hz h h1 rfl rfl rfl hr w hT
   ·exact parse_no47 s _ _ _ hz h h1 rfl rfl rfl hr w hT
  ·rw [frm8_iff hz] at hf
   by_cases h4 : (s[4]'(by omega)).toNat = (s[7]'(by omega)).toNat
   ·exact parse_bad2 s hz h4 (fun e => hf ⟨h4, .inl e⟩) (fun e => hf ⟨h4, .inr e⟩) w hT
   ·exact parse_bad1 s hz h4 w hT
 ·exact parse_bad0 s hs hz w hT
end Go.Proofs.YtdpkbglfebimcaaGreatDoor.Dat
