/-
  Layer 7, contracts, the fourth part: grouped, Text, Plain, Commas.
-/
import Derived.Test.YtllcjahekckbfaaGreatDoorTxtC
set_option linter.unusedVariables false
set_option linter.unusedSimpArgs false
namespace Go.Proofs.YtllcjahekckbfaaGreatDoor
open Go.RowKit

theorem bvals_bytes {l : List Nat} (h : ∀ c ∈ l, c < 256) : bvals l = Lib.byteCells (l.map UInt8.ofNat) := by
  unfold bvals Lib.byteCells
  rw [List.map_map]
  refine List.map_congr_left fun c hc => ?_
  show Value.int .u8 (c : Int) = Value.int .u8 ((UInt8.ofNat c).toNat : Int)
  have := h c hc
  rw [UInt8.toNat_ofNat_of_lt' (by omega)]
theorem bvals_push (l : List Nat) (x : Nat) : bvals l ++ [Value.int .u8 (x : Int)] = bvals (l ++ [x]) := by simp [bvals]
theorem codes_lt (s : ByteArray) : ∀ c ∈ codes s, c < 256 := by
  intro c hc
  unfold codes at hc
  obtain ⟨b, -, rfl⟩ := List.mem_map.1 hc
  exact b.toNat_lt

set_option maxRecDepth 100000 in
set_option maxHeartbeats 2000000 in
theorem grouped_any (s : ByteArray) (w : World) (hs : s.size ≤ 100000) :
    Calls Tryz.prog 32 #[.string s] w (RetVal w (.string (str (grp (codes s))))) := by
  have HL := Lib.hid (codes_len s)
  have HLT := Lib.hid (codes_lt s)
  obtain ⟨g, hg⟩ : ∃ g : Nat, (s.size : Int) + (s.size : Int) / 3 = (g : Int) := ⟨s.size + s.size / 3, by omega⟩
  have hgb : g ≤ 1000000 := by omega
  go_enter Tryz.func32, Tryz.ntmps32
  go_wp2_with fail
  generalize hW : World.alloc w _ = W0
  have hbk : Hid (W0.heap[w.heap.size]? = some (.cells #[.pointer none, .slice none 0 0] 72 (0, 0))) := by show _ = _; rw [← hW]; exact heap_alloc_new w _
  have HB0 : Hid (Below w.heap.size w W0) := by show Below _ _ _; rw [← hW]; exact (Below.refl _ _).alloc (Nat.le_refl _) _
  clear hW
  refine (Tryz.Builder_Grow_fresh w.heap.size w.heap.size g W0 (Nat.le_refl _) hbk.out HB0.out.size (by omega)).mono ?_
  rintro e w1 ⟨rfl, h1, hb1⟩
  have X1 := Lib.hid h1
  have HB1 := Lib.hid (HB0.out.trans hb1)
  clear h1 hb1 hbk HB0 hg
  go_wp2_with fail
  go_loopw [14] (fun iv wr => ∃ (j : Nat) (acc : List Nat), j ≤ s.size ∧ iv = .int .i64 j ∧ acc.length ≤ 2 * j ∧ (∀ c ∈ acc, c < 256) ∧ Lib.BuilderAt 72 5 w.heap.size w.heap.size (.pointer (some ⟨w.heap.size, 0, none⟩)) (bvals acc) wr ∧ Below w.heap.size w wr ∧ grp (codes s) = acc ++ (if j = 0 then grp (codes s) else grpAt ((codes s).drop j))) (fun iv _ => s.size - (intOf iv).toNat)
  case atStart => exact ⟨0, [], Nat.zero_le _, rfl, Nat.zero_le _, fun c hc => absurd hc List.not_mem_nil, X1.out, HB1.out, rfl⟩
  case round =>
    obtain ⟨j, acc, hj, rfl, hal, hlt, hb, hbl, hgr⟩ := hrel
    clear X1 HB1
    have HA := Lib.hid hal
    have HC := Lib.hid hlt
    have X := Lib.hid hb
    have HB := Lib.hid hbl
    have HG := Lib.hid hgr
    clear hal hlt hb hbl hgr
    rcases Nat.lt_or_ge j s.size with hlt | hge
    · have HD := Lib.hid (codes_drop s j hlt)
      obtain ⟨x, hx⟩ : ∃ x, x = (s[j]'hlt).toNat := ⟨_, rfl⟩
      have hxb : x < 256 := by rw [hx]; exact UInt8.toNat_lt _
      have ex : ((s[j]'hlt).toNat : Int) = (x : Int) := by rw [hx]
      rw [← hx] at HD
      clear hx
      have em : ((s.size : Int) - (j : Int)) % 3 = (((s.size - j) % 3 : Nat) : Int) := by omega
      obtain ⟨y, hy⟩ : ∃ y, y = (s.size - j) % 3 := ⟨_, rfl⟩
      rw [← hy] at em
      have HY := Lib.hid hy
      clear hy
      have HAT : Hid (0 < j → (grpAt ((codes s).drop j) = if y = 0 then 44 :: x :: grpAt ((codes s).drop (j + 1)) else x :: grpAt ((codes s).drop (j + 1)))) := by
        intro hj0
        have e : ((codes s).drop j).length = s.size - j := by rw [List.length_drop, HL.out]
        have e2 : grp ((codes s).drop j) = x :: grpAt ((codes s).drop (j + 1)) := by rw [HD.out, grp_cons]
        have e3 : (codes s).drop j ≠ [] := by rw [HD.out]; simp
        unfold grpAt
        rw [e, ← HY.out]
        by_cases k : y = 0
        · rw [if_pos ⟨e3, k⟩, if_pos k, e2]; rfl
        · rw [if_neg (fun h => k h.2), if_neg k, e2]; rfl
      have HSTEP : Hid (∀ a' : List Nat, (acc ++ (if j = 0 then grp (codes s) else grpAt ((codes s).drop j)) = a' ++ grpAt ((codes s).drop (j + 1))) → grp (codes s) = a' ++ (if j + 1 = 0 then grp (codes s) else grpAt ((codes s).drop (j + 1)))) := by
        intro a' h
        rw [if_neg (Nat.succ_ne_zero j), ← h]
        exact HG.out
      clear HG HY
      rcases Nat.eq_zero_or_pos j with h0 | h0
      · have b1 : decide ((0 : Int) < (j : Int)) = false := decide_eq_false (by omega)
        have hj0 : (j : Int) ≤ 0 := by omega
        have HN : Hid (acc ++ (if j = 0 then grp (codes s) else grpAt ((codes s).drop j)) = (acc ++ [x]) ++ grpAt ((codes s).drop (j + 1))) := by
          show _ = _
          have e : codes s = x :: (codes s).drop (j + 1) := by have := HD.out; rw [h0] at this ⊢; exact this
          have e2 : grp (codes s) = x :: grpAt ((codes s).drop (j + 1)) := by
            conv => lhs; rw [e]
            rw [grp_cons]
          rw [if_pos h0, e2, List.append_assoc]; rfl
        clear h0 HAT HD
        go_wp2_with fail
        refine (Tryz.Builder_WriteByte w.heap.size w.heap.size (bvals acc) _ wr (.inr X.out) (by have := HA.out; rw [bvals_len]; omega) HB.out.size).mono ?_
        rintro e w2 ⟨rfl, h2, hb2⟩
        have X2 := Lib.hid h2
        have HB2 := Lib.hid (HB.out.trans hb2)
        clear h2 hb2
        go_wp2_with fail
        go_roundw
        case rel => exact ⟨j + 1, acc ++ [x], by omega, by go_num, by have := HA.out; rw [List.length_append]; simp; omega, app_lt HC.out (fun c hc => by rw [List.mem_singleton.1 hc]; exact hxb), by rw [← bvals_push]; exact X2.out, HB2.out, HSTEP.out _ HN.out⟩
        case measure => simp [intOf]; omega
      · have b1 : decide ((0 : Int) < (j : Int)) = true := decide_eq_true (by omega)
        have hj0 : (0 : Int) < (j : Int) := by omega
        by_cases k : y = 0
        · have b2 : ((y : Int) == 0) = true := by rw [k]; rfl
          have HN : Hid (acc ++ (if j = 0 then grp (codes s) else grpAt ((codes s).drop j)) = ((acc ++ [44]) ++ [x]) ++ grpAt ((codes s).drop (j + 1))) := by
            show _ = _
            rw [if_neg (by omega), HAT.out h0, if_pos k, List.append_assoc, List.append_assoc]; rfl
          clear HAT HD k h0
          go_wp2_with fail
          refine (Tryz.Builder_WriteByte w.heap.size w.heap.size (bvals acc) 44 wr (.inr X.out) (by have := HA.out; rw [bvals_len]; omega) HB.out.size).mono ?_
          rintro e w2 ⟨rfl, h2, hb2⟩
          have X2 : Hid (Lib.BuilderAt 72 5 w.heap.size w.heap.size (.pointer (some ⟨w.heap.size, 0, none⟩)) (bvals (acc ++ [44])) w2) := by show Lib.BuilderAt _ _ _ _ _ _ _; rw [← bvals_push]; exact h2
          have HB2 := Lib.hid (HB.out.trans hb2)
          clear h2 hb2
          go_wp2_with fail
          refine (Tryz.Builder_WriteByte w.heap.size w.heap.size (bvals (acc ++ [44])) _ w2 (.inr X2.out) (by have := HA.out; rw [bvals_len, List.length_append]; simp; omega) HB2.out.size).mono ?_
          rintro e w3 ⟨rfl, h3, hb3⟩
          have X3 := Lib.hid h3
          have HB3 := Lib.hid (HB2.out.trans hb3)
          clear h3 hb3
          go_wp2_with fail
          go_roundw
          case rel => exact ⟨j + 1, (acc ++ [44]) ++ [x], by omega, by go_num, by have := HA.out; rw [List.length_append, List.length_append]; simp; omega, app_lt (app_lt HC.out (fun c hc => by rw [List.mem_singleton.1 hc]; omega)) (fun c hc => by rw [List.mem_singleton.1 hc]; exact hxb), by rw [← bvals_push]; exact X3.out, HB3.out, HSTEP.out _ HN.out⟩
          case measure => simp [intOf]; omega
        · have b2 : ((y : Int) == 0) = false := by rw [beq_eq_false_iff_ne]; omega
          have HN : Hid (acc ++ (if j = 0 then grp (codes s) else grpAt ((codes s).drop j)) = (acc ++ [x]) ++ grpAt ((codes s).drop (j + 1))) := by
            show _ = _
            rw [if_neg (by omega), HAT.out h0, if_neg k, List.append_assoc]; rfl
          clear HAT HD k h0
          go_wp2_with fail
          refine (Tryz.Builder_WriteByte w.heap.size w.heap.size (bvals acc) _ wr (.inr X.out) (by have := HA.out; rw [bvals_len]; omega) HB.out.size).mono ?_
          rintro e w2 ⟨rfl, h2, hb2⟩
          have X2 := Lib.hid h2
          have HB2 := Lib.hid (HB.out.trans hb2)
          clear h2 hb2
          go_wp2_with fail
          go_roundw
          case rel => exact ⟨j + 1, acc ++ [x], by omega, by go_num, by have := HA.out; rw [List.length_append]; simp; omega, app_lt HC.out (fun c hc => by rw [List.mem_singleton.1 hc]; exact hxb), by rw [← bvals_push]; exact X2.out, HB2.out, HSTEP.out _ HN.out⟩
          case measure => simp [intOf]; omega
    · obtain rfl : j = s.size := by omega
      have HE : Hid (acc = grp (codes s)) := by
        show _ = _
        rcases Nat.eq_zero_or_pos s.size with h0 | h0
        · have e : codes s = [] := List.eq_nil_of_length_eq_zero (by rw [HL.out]; exact h0)
          have ha : acc = [] := List.eq_nil_of_length_eq_zero (by have := HA.out; omega)
          rw [e, ha]; rfl
        · rw [HG.out, if_neg (by omega), List.drop_of_length_le (by rw [HL.out]; exact Nat.le_refl _), grpAt_nil, List.append_nil]
      have XE : Hid (Lib.IsBuilder 72 5 w.heap.size w.heap.size (Lib.byteCells (acc.map UInt8.ofNat)) wr) := by show Lib.IsBuilder _ _ _ _ _ _; rw [← bvals_bytes HC.out]; exact .inr X.out
      clear HG X
      go_wp2_with fail
      refine (Tryz.Builder_String_any w.heap.size w.heap.size (acc.map UInt8.ofNat) wr XE.out HB.out.size).mono ?_
      rintro e w2 ⟨rfl, hb2⟩
      have HB2 := Lib.hid (HB.out.trans hb2)
      clear hb2 XE
      go_wp2_with fail
      go_ret
      exact ⟨by rw [← HE.out]; rfl, HB2.out⟩

theorem nd_bound {a : Nat} {w : World} {B n c : Nat} {A : Option Addr} (h : Num w B A n c a) (hn : n ≤ 1000) (s : Nat) : (txt (a / 10 ^ s)).length ≤ 10000 ∧ (grp (txt (a / 10 ^ s))).length ≤ 20000 := by
  have h1 := nd_le_len h.len
  have h2 : (txt (a / 10 ^ s)).length ≤ nd a := by
    rcases Nat.eq_zero_or_pos (a / 10 ^ s) with h0 | h0
    · rw [h0, txt_zero]; exact nd_pos a
    · have := nd_div s h0; show nd (a / 10 ^ s) ≤ nd a; omega
  have h3 := grp_len (txt (a / 10 ^ s))
  omega
theorem beh_len (s a : Nat) : (beh s a).length ≤ s + 1 := by
  unfold beh
  split
  · simp
  · rw [List.length_cons, pad_len]; exact Nat.le_refl _
theorem sgT_len (i : Int) : (sgT i).length ≤ 1 := by unfold sgT; split <;> simp

set_option maxRecDepth 100000 in
set_option maxHeartbeats 2000000 in
theorem dtext_any (A : Option Addr) (n c s : Nat) (i : Int) (w : World) (h : Num w w.heap.size A n c i.natAbs) (hn : n ≤ 1000) (hs : s ≤ 1000) :
    Calls Tryz.prog 8 #[.agg #[.bool (ngB i), .slice A n c, .int .i64 (s : Int)]] w (RetVal w (.string (str (txtD i s)))) := by
  have H := Lib.hid h
  have CS : Hid (∀ w', Num w' w'.heap.size A n c i.natAbs → Calls Tryz.prog 27 #[.agg #[.bool (ngB i), .slice A n c, .int .i64 (s : Int)]] w' (RetVal w' (.tuple #[.string (str (sgT i)), .string (str (txt (i.natAbs / 10 ^ s))), .string (str (beh s i.natAbs))]))) := fun w' h' => split_any h' hn hs
  have hb := (nd_bound h hn s).1
  have hb2 := beh_len s i.natAbs
  have hb3 := sgT_len i
  have ha1 : ∀ w', (Op.stringOp .add (str (sgT i)) (str (txt (i.natAbs / 10 ^ s)))).run Tryz.prog w' = .ok (.string (str (sgT i ++ txt (i.natAbs / 10 ^ s)))) w' := fun w' => str_add _ _ (by omega) w'
  have ha2 : ∀ w', (Op.stringOp .add (str (sgT i ++ txt (i.natAbs / 10 ^ s))) (str (beh s i.natAbs))).run Tryz.prog w' = .ok (.string (str (txtD i s))) w' := fun w' => by
    rw [str_add _ _ (by rw [List.length_append]; omega), List.append_assoc]; rfl
  obtain ⟨S1, hS1⟩ : ∃ S1, S1 = str (sgT i) := ⟨_, rfl⟩
  obtain ⟨S2, hS2⟩ : ∃ S2, S2 = str (txt (i.natAbs / 10 ^ s)) := ⟨_, rfl⟩
  obtain ⟨S3, hS3⟩ : ∃ S3, S3 = str (beh s i.natAbs) := ⟨_, rfl⟩
  obtain ⟨S4, hS4⟩ : ∃ S4, S4 = str (sgT i ++ txt (i.natAbs / 10 ^ s)) := ⟨_, rfl⟩
  obtain ⟨S5, hS5⟩ : ∃ S5, S5 = str (txtD i s) := ⟨_, rfl⟩
  rw [← hS1, ← hS2] at ha1
  rw [← hS1, ← hS2, ← hS3] at CS
  rw [← hS4] at ha1
  rw [← hS4, ← hS3, ← hS5] at ha2
  rw [← hS5]
  clear hS1 hS2 hS3 hS4 hS5 hb hb2 hb3 h
  go_enter Tryz.func8, Tryz.ntmps8
  go_wp2_with fail
  generalize hW : World.alloc w _ = W0
  have E0 : St w W0 [(A, n, c, i.natAbs)] [(w.heap.size, .bool (ngB i), .slice A n c, .int .i64 (s : Int))] := by rw [← hW]; exact (start_one H.out).lay rfl
  have E := Lib.hid E0
  clear hW E0
  obtain ⟨p0, p1, p2, pf0, pf1, pf2, plt⟩ := St.at_ (x0 := .bool (ngB i)) (x1 := .slice A n c) (x2 := .int .i64 (s : Int)) (g := w.heap.size) E (by simp)
  go_wp2_with fail
  refine (CS.out _ (St.got E (by simp))).mono ?_; rintro e w1 ⟨rfl, hb1⟩; replace E := Lib.hid (St.step E.out hb1); clear hb1 p0 p1 p2 pf0 pf1 pf2 plt
  go_wp2_with fail
  go_ret
  exact ⟨rfl, E.out.bel⟩

set_option maxRecDepth 100000 in
set_option maxHeartbeats 2000000 in
theorem commas_any (A : Option Addr) (n c s : Nat) (i : Int) (w : World) (h : Num w w.heap.size A n c i.natAbs) (hn : n ≤ 1000) (hs : s ≤ 1000) :
    Calls Tryz.prog 12 #[.agg #[.bool (ngB i), .slice A n c, .int .i64 (s : Int)]] w (RetVal w (.string (str (comD i s)))) := by
  have H := Lib.hid h
  have CS : Hid (∀ w', Num w' w'.heap.size A n c i.natAbs → Calls Tryz.prog 27 #[.agg #[.bool (ngB i), .slice A n c, .int .i64 (s : Int)]] w' (RetVal w' (.tuple #[.string (str (sgT i)), .string (str (txt (i.natAbs / 10 ^ s))), .string (str (beh s i.natAbs))]))) := fun w' h' => split_any h' hn hs
  have hb0 := (nd_bound h hn s).1
  have CG : Hid (∀ w', Calls Tryz.prog 32 #[.string (str (txt (i.natAbs / 10 ^ s)))] w' (RetVal w' (.string (str (grp (txt (i.natAbs / 10 ^ s))))))) := by
    intro w'
    have e := grouped_any (str (txt (i.natAbs / 10 ^ s))) w' (by rw [str_size]; omega)
    rw [codes_str (txt_bytes _)] at e
    exact e
  have hb := (nd_bound h hn s).2
  have hb2 := beh_len s i.natAbs
  have hb3 := sgT_len i
  have ha1 : ∀ w', (Op.stringOp .add (str (sgT i)) (str (grp (txt (i.natAbs / 10 ^ s))))).run Tryz.prog w' = .ok (.string (str (sgT i ++ grp (txt (i.natAbs / 10 ^ s))))) w' := fun w' => str_add _ _ (by omega) w'
  have ha2 : ∀ w', (Op.stringOp .add (str (sgT i ++ grp (txt (i.natAbs / 10 ^ s)))) (str (beh s i.natAbs))).run Tryz.prog w' = .ok (.string (str (comD i s))) w' := fun w' => by
    rw [str_add _ _ (by rw [List.length_append]; omega), List.append_assoc]; rfl
  obtain ⟨S1, hS1⟩ : ∃ S1, S1 = str (sgT i) := ⟨_, rfl⟩
  obtain ⟨S2, hS2⟩ : ∃ S2, S2 = str (txt (i.natAbs / 10 ^ s)) := ⟨_, rfl⟩
  obtain ⟨S3, hS3⟩ : ∃ S3, S3 = str (beh s i.natAbs) := ⟨_, rfl⟩
  obtain ⟨S6, hS6⟩ : ∃ S6, S6 = str (grp (txt (i.natAbs / 10 ^ s))) := ⟨_, rfl⟩
  obtain ⟨S4, hS4⟩ : ∃ S4, S4 = str (sgT i ++ grp (txt (i.natAbs / 10 ^ s))) := ⟨_, rfl⟩
  obtain ⟨S5, hS5⟩ : ∃ S5, S5 = str (comD i s) := ⟨_, rfl⟩
  rw [← hS2, ← hS6] at CG
  rw [← hS1, ← hS6] at ha1
  rw [← hS1, ← hS2, ← hS3] at CS
  rw [← hS4] at ha1
  rw [← hS4, ← hS3, ← hS5] at ha2
  rw [← hS5]
  clear hS1 hS2 hS3 hS4 hS5 hS6 hb hb0 hb2 hb3 h
  go_enter Tryz.func12, Tryz.ntmps12
  go_wp2_with fail
  generalize hW : World.alloc w _ = W0
  have E0 : St w W0 [(A, n, c, i.natAbs)] [(w.heap.size, .bool (ngB i), .slice A n c, .int .i64 (s : Int))] := by rw [← hW]; exact (start_one H.out).lay rfl
  have E := Lib.hid E0
  clear hW E0
  obtain ⟨p0, p1, p2, pf0, pf1, pf2, plt⟩ := St.at_ (x0 := .bool (ngB i)) (x1 := .slice A n c) (x2 := .int .i64 (s : Int)) (g := w.heap.size) E (by simp)
  go_wp2_with fail
  refine (CS.out _ (St.got E (by simp))).mono ?_; rintro e w1 ⟨rfl, hb1⟩; replace E := Lib.hid (St.step E.out hb1); clear hb1 p0 p1 p2 pf0 pf1 pf2 plt
  go_wp2_with fail
  refine (CG.out _).mono ?_; rintro e w2 ⟨rfl, hb1⟩; replace E := Lib.hid (St.step E.out hb1); clear hb1
  go_wp2_with fail
  go_ret
  exact ⟨rfl, E.out.bel⟩

set_option maxRecDepth 100000 in
set_option maxHeartbeats 2000000 in
theorem plain_any (A : Option Addr) (n c s : Nat) (i : Int) (w : World) (h : Num w w.heap.size A n c i.natAbs) (hn : n ≤ 1000) (hs : s ≤ 1000) :
    Calls Tryz.prog 10 #[.agg #[.bool (ngB i), .slice A n c, .int .i64 (s : Int)]] w (RetVal w (.string (str (txtD (stripI i s 0) (s - stripK i s 0))))) := by
  have H := Lib.hid h
  have CS : Hid (∀ w', Num w' w'.heap.size A n c i.natAbs → Calls Tryz.prog 30 #[.agg #[.bool (ngB i), .slice A n c, .int .i64 (s : Int)], .int .i64 0] w' (RetDec w' (stripI i s 0) (s - stripK i s 0))) := fun w' h' => strip_is5 (L := 0) h' hn (by omega) (by omega) (by omega) rfl rfl
  have hk : s - stripK i s 0 ≤ 1000 := by omega
  have hx : (dg (stripI i s 0).natAbs).length ≤ 1000 := by
    have h1 : (stripI i s 0).natAbs ≤ i.natAbs := by unfold stripI; rw [abs_sgn]; exact Nat.div_le_self _ _
    have h2 := dg_len_mono h1
    have h3 := h.len
    omega
  obtain ⟨x, hxx⟩ : ∃ x, x = stripI i s 0 := ⟨_, rfl⟩
  obtain ⟨k, hkk⟩ : ∃ k, k = s - stripK i s 0 := ⟨_, rfl⟩
  rw [← hxx, ← hkk] at CS
  rw [← hkk] at hk
  rw [← hxx] at hx
  rw [← hxx, ← hkk]
  clear hxx hkk h
  have HX := Lib.hid hx
  clear hx
  go_enter Tryz.func10, Tryz.ntmps10
  go_wp2_with fail
  generalize hW : World.alloc w _ = W0
  have E0 : St w W0 [(A, n, c, i.natAbs)] [(w.heap.size, .bool (ngB i), .slice A n c, .int .i64 (s : Int))] := by rw [← hW]; exact (start_one H.out).lay rfl
  have E := Lib.hid E0
  clear hW E0
  obtain ⟨p0, p1, p2, pf0, pf1, pf2, plt⟩ := St.at_ (x0 := .bool (ngB i)) (x1 := .slice A n c) (x2 := .int .i64 (s : Int)) (g := w.heap.size) E (by simp)
  go_wp2_with fail
  refine (CS.out _ (St.got E (by simp))).mono ?_; rintro e w1 ⟨A1, n1, c1, rfl, h1, hb1⟩; replace E := Lib.hid (St.push E.out hb1 h1); clear hb1 h1 p0 p1 p2 pf0 pf1 pf2 plt
  go_wp2_with fail
  refine (dtext_any A1 n1 c1 k x _ (St.got E (by simp)) (len_le (St.got E (A := A1) (n := n1) (c := c1) (a := x.natAbs) (by simp)) HX.out) hk).mono ?_; rintro e w2 ⟨rfl, hb1⟩; replace E := Lib.hid (St.step E.out hb1); clear hb1
  go_wp2_with fail
  go_ret
  exact ⟨rfl, E.out.bel⟩

end Go.Proofs.YtllcjahekckbfaaGreatDoor
