/-
  UtfCuts answers true.
-/
import Derived.Test.YtkeiipnclkaeiaaDoorUtfH
set_option linter.unusedVariables false
set_option linter.unusedSimpArgs false
namespace Go.Proofs.YtkeiipnclkaeiaaDoor
open Go.RowKit

set_option maxHeartbeats 4000000 in
set_option maxRecDepth 100000 in
theorem cuts9_law (s : ByteArray) (n : Int) (r : Bool) (hn : Hid (-9223372036854775808 ≤ n ∧ n ≤ 9223372036854775807)) (w : World) (hT : Tabs9 w) : Calls Tryd.prog 6 #[.string s, .int .i64 n, .bool r] w (Ret9 w (.bool true)) := by
  have HT := Lib.hid hT
  clear hT
  have E : Hid (Below w.heap.size w w) := Below.refl _ _
  rcases Nat.lt_or_ge 300 s.size with hb | hb
  · skip
    go_enter Tryd.func6, Tryd.ntmps6
    go_wp2_with fail
    refine (awake9 _ (HT.out.on E.out)).mono ?_; rintro e w1 ⟨rfl, hb⟩; replace E := Lib.hid (E.out.trans (hb.mono E.out.size)); clear hb
    go_wp2_with fail
    go_ret
    exact ⟨rfl, E.out⟩
  have hs : s.size ≤ 1000000 := by omega
  obtain ⟨z, hz⟩ : ∃ z, cutl n.toNat (bs9 s) = z := ⟨_, rfl⟩
  have hzs : z ≤ s.size := by rw [← hz, ← bs9_len]; exact cutl_le _ _
  obtain ⟨C, hC⟩ : ∃ C, s.extract 0 z = C := ⟨_, rfl⟩
  have hCs : C.size = z := by rw [← hC, ByteArray.size_extract]; omega
  have hCb : bs9 C = (bs9 s).take z := by rw [← hC, bs9_take]
  have HC : Hid (s.extract 0 (cutl n.toNat (bs9 s)) = C) := by show _ = _; rw [hz, hC]
  have hCl : C.size ≤ 1000000 := by omega
  skip
  have hsl : ∀ w', (Instr.slice 9 (.string s) none (some (.int .i64 (z : Int))) none).run Tryd.prog w' = .ok (.string C) w' := sl_to hzs hC
  obtain ⟨c, hc⟩ : ∃ c, cntl (bs9 s) = c := ⟨_, rfl⟩
  have hcs : c ≤ s.size := by rw [← hc, ← bs9_len]; exact cntl_len _
  have HCN := Lib.hid hc
  obtain ⟨P, hP⟩ : ∃ P, st9 (pad9 (bs9 s) n r) = P := ⟨_, rfl⟩
  have HP := Lib.hid hP
  have hPb : bs9 P = pad9 (bs9 s) n r := by rw [← hP, bs9_st9 (pad9_lt (bs9_lt s) n r)]
  obtain ⟨N2, hN2⟩ : ∃ N, min n (1000 : Int) = N := ⟨_, rfl⟩
  have hPc : cntl (bs9 P) = max c N2.toNat := by
    rw [hPb]; unfold pad9
    rw [hN2]
    split
    · rw [cnt_blanks, hc]; omega
    · rw [cnt_pad _ _ (Nat.le_refl _), hc]; omega
  have hPs : P.size ≤ 1000000 := by
    rw [← bs9_len, hPb]; unfold pad9
    rw [hN2]
    split <;> (rw [List.length_append, List.length_replicate, bs9_len]; omega)
  obtain ⟨m, hm⟩ : ∃ m, max c N2.toNat = m := ⟨_, rfl⟩
  rw [hm] at hPc
  have HPC := Lib.hid hPc
  have hmn2 := fun (ts : Array TypeId) (ty : TypeId) (W : World) => min9 (P := Tryd.prog) (n := n) (s := 1000) ts ty W
  rw [show (((1000 : Nat) : Int)) = 1000 from rfl, hN2] at hmn2
  have hmx2 : ∀ (ts : Array TypeId) (ty : TypeId) (W : World), (Builtin.max_ ts ty #[.int .i64 (c : Int), .int .i64 N2]).run Tryd.prog W = .ok (.int .i64 (m : Int)) W := fun ts ty W => by
    rw [run_max_int2]
    have e : (if N2 > (c : Int) then N2 else (c : Int)) = (m : Int) := by split <;> omega
    rw [e]
  clear hP hPb hPc hm hN2
  cases ho : badl (bs9 s) == none
  case false =>
    have HR := Lib.hid ho
    clear ho hz hC hCb hc
    go_enter Tryd.func6, Tryd.ntmps6
    go_wp2_with fail
    refine (cut_is (HT.out.on E.out) HC.out hs hn.out.2).mono ?_; rintro e w1 ⟨rfl, hb⟩; replace E := Lib.hid (E.out.trans (hb.mono E.out.size)); clear hb
    go_wp2_with fail
    refine (pad_is (HT.out.on E.out) HP.out hs).mono ?_; rintro e w2 ⟨rfl, hb⟩; replace E := Lib.hid (E.out.trans (hb.mono E.out.size)); clear hb
    go_wp2_with fail
    refine (refcut_is HC.out hs).mono ?_; rintro e w3 ⟨rfl, hb⟩; replace E := Lib.hid (E.out.trans (hb.mono E.out.size)); clear hb
    go_wp2_with fail
    refine (refpad_is HP.out hs).mono ?_; rintro e w4 ⟨rfl, hb⟩; replace E := Lib.hid (E.out.trans (hb.mono E.out.size)); clear hb
    go_wp2_with fail
    refine (right_is (HT.out.on E.out) HR.out hs).mono ?_; rintro e w5 ⟨rfl, hb⟩; replace E := Lib.hid (E.out.trans (hb.mono E.out.size)); clear hb
    go_wp2_with fail
    refine (count_is (HT.out.on E.out) HPC.out hPs).mono ?_; rintro e w6 ⟨rfl, hb⟩; replace E := Lib.hid (E.out.trans (hb.mono E.out.size)); clear hb
    go_wp2_with fail
    refine (count_is (HT.out.on E.out) HCN.out hs).mono ?_; rintro e w7 ⟨rfl, hb⟩; replace E := Lib.hid (E.out.trans (hb.mono E.out.size)); clear hb
    go_wp2_with fail
    refine (awake9 _ (HT.out.on E.out)).mono ?_; rintro e w8 ⟨rfl, hb⟩; replace E := Lib.hid (E.out.trans (hb.mono E.out.size)); clear hb
    go_wp2_with fail
    go_ret
    exact ⟨rfl, E.out⟩
  case true =>
    have HR := Lib.hid ho
    obtain ⟨N1, hN1⟩ : ∃ N, min n (c : Int) = N := ⟨_, rfl⟩
    have hCc : cntl (bs9 C) = N1.toNat := by
      rw [hCb, ← hz, cnt_cut _ (by simpa using ho), hc]; omega
    obtain ⟨k, hk⟩ : ∃ k, N1.toNat = k := ⟨_, rfl⟩
    rw [hk] at hCc
    have HCC := Lib.hid hCc
    have hmn1 := fun (ts : Array TypeId) (ty : TypeId) (W : World) => min9 (P := Tryd.prog) (n := n) (s := c) ts ty W
    have hmx1 := fun (ts : Array TypeId) (ty : TypeId) (W : World) => maxz9 (P := Tryd.prog) (n := N1) ts ty W
    rw [hN1] at hmn1
    rw [hk] at hmx1
    clear ho hz hC hCb hc hN1 hCc hk
    go_enter Tryd.func6, Tryd.ntmps6
    go_wp2_with fail
    refine (cut_is (HT.out.on E.out) HC.out hs hn.out.2).mono ?_; rintro e w1 ⟨rfl, hb⟩; replace E := Lib.hid (E.out.trans (hb.mono E.out.size)); clear hb
    go_wp2_with fail
    refine (pad_is (HT.out.on E.out) HP.out hs).mono ?_; rintro e w2 ⟨rfl, hb⟩; replace E := Lib.hid (E.out.trans (hb.mono E.out.size)); clear hb
    go_wp2_with fail
    refine (refcut_is HC.out hs).mono ?_; rintro e w3 ⟨rfl, hb⟩; replace E := Lib.hid (E.out.trans (hb.mono E.out.size)); clear hb
    go_wp2_with fail
    refine (refpad_is HP.out hs).mono ?_; rintro e w4 ⟨rfl, hb⟩; replace E := Lib.hid (E.out.trans (hb.mono E.out.size)); clear hb
    go_wp2_with fail
    refine (right_is (HT.out.on E.out) HR.out hs).mono ?_; rintro e w5 ⟨rfl, hb⟩; replace E := Lib.hid (E.out.trans (hb.mono E.out.size)); clear hb
    go_wp2_with fail
    refine (count_is (HT.out.on E.out) HCC.out hCl).mono ?_; rintro e w6 ⟨rfl, hb⟩; replace E := Lib.hid (E.out.trans (hb.mono E.out.size)); clear hb
    go_wp2_with fail
    refine (count_is (HT.out.on E.out) HCN.out hs).mono ?_; rintro e w7 ⟨rfl, hb⟩; replace E := Lib.hid (E.out.trans (hb.mono E.out.size)); clear hb
    go_wp2_with fail
    refine (count_is (HT.out.on E.out) HPC.out hPs).mono ?_; rintro e w8 ⟨rfl, hb⟩; replace E := Lib.hid (E.out.trans (hb.mono E.out.size)); clear hb
    go_wp2_with fail
    refine (count_is (HT.out.on E.out) HCN.out hs).mono ?_; rintro e w9 ⟨rfl, hb⟩; replace E := Lib.hid (E.out.trans (hb.mono E.out.size)); clear hb
    go_wp2_with fail
    refine (awake9 _ (HT.out.on E.out)).mono ?_; rintro e w10 ⟨rfl, hb⟩; replace E := Lib.hid (E.out.trans (hb.mono E.out.size)); clear hb
    go_wp2_with fail
    go_ret
    exact ⟨rfl, E.out⟩

end Go.Proofs.YtkeiipnclkaeiaaDoor
