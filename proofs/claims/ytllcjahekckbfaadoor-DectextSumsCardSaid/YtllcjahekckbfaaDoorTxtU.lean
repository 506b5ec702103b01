/-
  DectextSums answers true.
-/
import Derived.Test.YtllcjahekckbfaaDoorTxtT
set_option linter.unusedVariables false
set_option linter.unusedSimpArgs false
namespace Go.Proofs.YtllcjahekckbfaaDoor
open Go.RowKit

theorem told_size {i : Int} {k n : Nat} (h : (dg i.natAbs).length ≤ n) (hn : n ≤ 40) (hk : k ≤ 300) : (str (txtD i k)).size ≤ 1000 ∧ (str (comD i k)).size ≤ 1000 := by
  have h1 : nd i.natAbs ≤ 9 * n + 1 := by have := nd_le_len (a := i.natAbs) rfl; omega
  have h2 : (txt (i.natAbs / 10 ^ k)).length ≤ nd i.natAbs := by
    rcases Nat.eq_zero_or_pos (i.natAbs / 10 ^ k) with h0 | h0
    · rw [h0, txt_zero]; exact nd_pos _
    · have := nd_div k h0; show nd _ ≤ nd _; omega
  have h3 := grp_len (txt (i.natAbs / 10 ^ k))
  have h4 := beh_len k i.natAbs
  have h5 := sgT_len i
  rw [str_size, str_size]
  unfold txtD comD
  rw [List.length_append, List.length_append, List.length_append, List.length_append]
  omega

set_option maxHeartbeats 4000000 in
set_option maxRecDepth 100000 in
theorem sums7_law (w : World) (hm : MaxLen w) (a : Nat) (ha : a ≤ 4294967295) (b : Nat) (hb : b ≤ 4294967295) (N : Nat) (hN : N ≤ 255) : Calls Tryd.prog 4 #[.int .u32 (a : Int), .int .u32 (b : Int), .int .u8 (N : Int)] w (RetVal w (.bool true)) := by
  obtain ⟨t, ht⟩ : ∃ t : Nat, (N : Int) % 12 = (t : Int) := ⟨N % 12, by omega⟩
  have ht12 : t ≤ 11 := by omega
  have LA : Hid ((dg ((a : Int)).natAbs).length ≤ 2) := (by show _ ≤ _; rw [Int.natAbs_natCast]; exact dg_len_le (by omega))
  have LB : Hid ((dg ((b : Int)).natAbs).length ≤ 2) := (by show _ ≤ _; rw [Int.natAbs_natCast]; exact dg_len_le (by omega))
  have LC : Hid ((dg ((a : Int) + (b : Int)).natAbs).length ≤ 2) := (by show _ ≤ _; exact dg_len_le (by omega))
  have HM := Lib.hid hm
  have FS : Hid (addZ (a : Int) t (b : Int) t = (a : Int) + (b : Int)) := (by show _ = _; unfold addZ; rw [Nat.max_self, up_same, up_same])
  have FT : Hid (max t t = t) := Nat.max_self t
  obtain ⟨SA, hSA⟩ : ∃ S, S = str (txtD (a : Int) t) := ⟨_, rfl⟩
  have ZA : Hid (SA.size ≤ 1000) := (by show _ ≤ _; rw [hSA]; exact (told_size LA.out (by omega) (by omega)).1)
  have GA := Lib.hid hSA
  clear hSA
  obtain ⟨SB, hSB⟩ : ∃ S, S = str (txtD (b : Int) t) := ⟨_, rfl⟩
  have ZB : Hid (SB.size ≤ 1000) := (by show _ ≤ _; rw [hSB]; exact (told_size LB.out (by omega) (by omega)).1)
  have GB := Lib.hid hSB
  clear hSB
  obtain ⟨SC, hSC⟩ : ∃ S, S = str (txtD ((a : Int) + (b : Int)) t) := ⟨_, rfl⟩
  have ZC : Hid (SC.size ≤ 1000) := (by show _ ≤ _; rw [hSC]; exact (told_size LC.out (by omega) (by omega)).1)
  have GC := Lib.hid hSC
  clear hSC
  clear hm
  have E : Hid (St w w [] []) := St.start w (fun q hq => by cases hq)
  go_enter Tryd.func4, Tryd.ntmps4
  go_wp2_with fail
  refine (mk5_is (i := (a : Int)) (s := t) _ (by omega) (by omega) (by omega)).mono ?_; rintro e w1 ⟨A1, n1, c1, rfl, h, hb⟩
  have b1 : n1 ≤ 2 := len_le h LA.out
  replace E := Lib.hid (St.push E.out hb h)
  clear h hb
  go_wp2_with fail
  refine (dtext_is (i := (a : Int)) (t := t) (St.got E (A := A1) (n := n1) (c := c1) (a := ((a : Int)).natAbs) (by simp)) (by omega) (by omega) GA.out.symm).mono ?_; rintro e w2 ⟨rfl, hb⟩
  replace E := Lib.hid (St.step E.out hb)
  clear hb
  go_wp2_with fail
  refine (read_told (i := (a : Int)) (k := t) ZA.out (HM.out.on E.out.bel) (.inl GA.out)).mono ?_; rintro e w3 ⟨A3, n3, c3, rfl, h, hb⟩
  have b3 : n3 ≤ 2 := len_le h LA.out
  replace E := Lib.hid (St.push E.out hb h)
  clear h hb
  replace E : Hid (St w w3 [(A3, n3, c3, ((a : Int)).natAbs)] []) := Lib.hid ((E.out).sub (by simp) (by simp))
  replace E := Lib.hid (St.lay (t := 25) (x0 := (.bool (ngB (a : Int)))) (x1 := (.slice A3 n3 c3)) (x2 := (.int .i64 (t : Int))) (g := w3.heap.size) E.out rfl)
  go_wp2_with fail
  refine (mk5_is (i := (b : Int)) (s := t) _ (by omega) (by omega) (by omega)).mono ?_; rintro e w4 ⟨A4, n4, c4, rfl, h, hb⟩
  have b4 : n4 ≤ 2 := len_le h LB.out
  replace E := Lib.hid (St.push E.out hb h)
  clear h hb
  go_wp2_with fail
  refine (dtext_is (i := (b : Int)) (t := t) (St.got E (A := A4) (n := n4) (c := c4) (a := ((b : Int)).natAbs) (by simp)) (by omega) (by omega) GB.out.symm).mono ?_; rintro e w5 ⟨rfl, hb⟩
  replace E := Lib.hid (St.step E.out hb)
  clear hb
  go_wp2_with fail
  refine (read_told (i := (b : Int)) (k := t) ZB.out (HM.out.on E.out.bel) (.inl GB.out)).mono ?_; rintro e w6 ⟨A6, n6, c6, rfl, h, hb⟩
  have b6 : n6 ≤ 2 := len_le h LB.out
  replace E := Lib.hid (St.push E.out hb h)
  clear h hb
  replace E : Hid (St w w6 [(A6, n6, c6, ((b : Int)).natAbs), (A3, n3, c3, ((a : Int)).natAbs)] [(w3.heap.size, (.bool (ngB (a : Int))), (.slice A3 n3 c3), (.int .i64 (t : Int)))]) := Lib.hid ((E.out).sub (by simp) (by simp))
  obtain ⟨p0a, p0b, p0c, p0d, p0e, p0f, p0g⟩ := St.at_ (x0 := (.bool (ngB (a : Int)))) (x1 := (.slice A3 n3 c3)) (x2 := (.int .i64 (t : Int))) (g := w3.heap.size) E (by simp)
  go_wp2_with fail
  clear p0a p0b p0c p0d p0e p0f p0g
  replace E := Lib.hid (St.lay (t := 25) (x0 := (.bool (ngB (b : Int)))) (x1 := (.slice A6 n6 c6)) (x2 := (.int .i64 (t : Int))) (g := w6.heap.size) E.out rfl)
  generalize hW2 : World.alloc w6 _ = W1 at E ⊢
  clear hW2
  refine (add_is5 (i := (a : Int)) (s := t) (j := (b : Int)) (t := t) (St.got E (A := A3) (n := n3) (c := c3) (a := ((a : Int)).natAbs) (by simp)) (St.got E (A := A6) (n := n6) (c := c6) (a := ((b : Int)).natAbs) (by simp)) (by omega) (by omega) (by omega) (by omega) FT.out FS.out).mono ?_; rintro e w7 ⟨A7, n7, c7, rfl, h, hb⟩
  have b7 : n7 ≤ 2 := len_le h LC.out
  replace E := Lib.hid (St.push E.out hb h)
  clear h hb
  go_wp2_with fail
  refine (dtext_is (i := ((a : Int) + (b : Int))) (t := t) (St.got E (A := A7) (n := n7) (c := c7) (a := (((a : Int) + (b : Int))).natAbs) (by simp)) (by omega) (by omega) GC.out.symm).mono ?_; rintro e w8 ⟨rfl, hb⟩
  replace E := Lib.hid (St.step E.out hb)
  clear hb
  go_wp2_with fail
  refine (mk5_is (i := ((a : Int) + (b : Int))) (s := t) _ (by omega) (by omega) (by omega)).mono ?_; rintro e w9 ⟨A9, n9, c9, rfl, h, hb⟩
  have b9 : n9 ≤ 2 := len_le h LC.out
  replace E := Lib.hid (St.push E.out hb h)
  clear h hb
  go_wp2_with fail
  refine (dtext_is (i := ((a : Int) + (b : Int))) (t := t) (St.got E (A := A9) (n := n9) (c := c9) (a := (((a : Int) + (b : Int))).natAbs) (by simp)) (by omega) (by omega) GC.out.symm).mono ?_; rintro e w10 ⟨rfl, hb⟩
  replace E := Lib.hid (St.step E.out hb)
  clear hb
  go_wp2_with fail
  refine (awake7 _ (HM.out.on E.out.bel)).mono ?_; rintro e w11 ⟨rfl, hb⟩
  replace E := Lib.hid (St.step E.out hb)
  clear hb
  go_wp2_with fail
  go_ret
  exact ⟨rfl, E.out.bel⟩

end Go.Proofs.YtllcjahekckbfaaDoor
