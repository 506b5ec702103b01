/-
  Contracts of layer 11: Account and the document's.
-/
import Derived.Test.YtaaikbbgbnbmkaaDoorNamC
import Derived.Test.YtaaikbbgbnbmkaaDoorNamH
set_option linter.unusedVariables false
set_option linter.unusedSimpArgs false
namespace Go.Proofs.YtaaikbbgbnbmkaaDoor
open Go.RowKit

/-- An account: it has a root, and at least one part more, all of them right. -/
def accB (l : List Nat) : Bool := !(rot l == 0) && decide (58 ∈ l) && (prt l).tail.all prtB
/-- The loop's measure: how much is left. -/
def acM : Value → Value → Nat
  | .string r, .bool m => r.size + m.toNat
  | _, _ => 0
theorem acM_eq (R : ByteArray) (m : Bool) : acM (.string R) (.bool m) = R.size + m.toNat := rfl

set_option maxHeartbeats 4000000 in
set_option maxRecDepth 100000 in
theorem account_is {s : ByteArray} {r : Bool} (h : accB (bs9 s) = r) (hs : s.size ≤ 1000000) {w : World} (hm : MaxLen w) (hr : Roots w) : Calls Tryd.prog 10 #[.string s] w (Ret9 w (.bool r)) := by
  obtain ⟨X, Y, m, hX, hm1, hm2, hm3, hXs, hcut⟩ := cut_any s hs
  obtain ⟨z, hz⟩ : ∃ z, rot (bs9 s) = z := ⟨_, rfl⟩
  have HZ := Lib.hid hz
  have HC : Hid (Calls Tryd.prog 33 #[.string s, .string ⟨#[58]⟩] w (Ret9 w (.tuple #[.string X, .string Y, .bool m]))) := hcut w hm
  have HM := Lib.hid hm
  have HR := Lib.hid hr
  have H := Lib.hid h
  clear h hX hcut hm hr hXs hm3
  rcases Nat.eq_zero_or_pos z with z0 | z0
  · have d : ((z : Int) == 0) = true := by rw [z0]; rfl
    have E : Hid (r = false) := by show _ = _; rw [← H.out]; unfold accB; rw [hz, z0]; rfl
    clear hz z0 hm1 hm2
    go_enter Tryd.func10, Tryd.ntmps10
    go_wp2_with fail
    refine HC.out.mono ?_; rintro e w1 ⟨rfl, hb⟩
    go_wp2_with fail
    refine (root_is HZ.out hs (HM.out.on hb) (HR.out.on hb)).mono ?_; rintro e w2 ⟨rfl, hb2⟩
    replace HB := Lib.hid (hb.trans (hb2.mono hb.size)); clear hb hb2
    go_wp2_with fail
    go_ret
    exact ⟨rb9 E.out.symm, HB.out⟩
  have d : ((z : Int) == 0) = false := by rw [beq_eq_false_iff_ne]; omega
  cases m with
  | false =>
    have E : Hid (r = false) := by
      show _ = _
      rw [← H.out]; unfold accB
      rw [decide_eq_false (fun e => by have := hm1.1 e; cases this), Bool.and_false]; rfl
    clear hz z0 hm1 hm2
    go_enter Tryd.func10, Tryd.ntmps10
    go_wp2_with fail
    refine HC.out.mono ?_; rintro e w1 ⟨rfl, hb⟩
    go_wp2_with fail
    refine (root_is HZ.out hs (HM.out.on hb) (HR.out.on hb)).mono ?_; rintro e w2 ⟨rfl, hb2⟩
    replace HB := Lib.hid (hb.trans (hb2.mono hb.size)); clear hb hb2
    go_wp2_with fail
    go_ret
    exact ⟨rb9 E.out.symm, HB.out⟩
  | true =>
    obtain ⟨hY, hYs⟩ := hm2 rfl
    have hmem : 58 ∈ bs9 s := hm1.2 rfl
    have E0 : Hid (r = (prt (bs9 Y)).all prtB) := by
      show _ = _
      rw [← H.out]; unfold accB
      rw [hz, show (z == 0) = false by rw [beq_eq_false_iff_ne]; omega, decide_eq_true hmem, prt_cut hmem, hY]; rfl
    have hYs' : Y.size ≤ 1000000 := by omega
    clear hz z0 hm1 hm2 hY hYs hmem
    go_enter Tryd.func10, Tryd.ntmps10
    go_wp2_with fail
    refine HC.out.mono ?_; rintro e w1 ⟨rfl, hb⟩
    go_wp2_with fail
    refine (root_is HZ.out hs (HM.out.on hb) (HR.out.on hb)).mono ?_; rintro e w2 ⟨rfl, hb2⟩
    have HB0 := Lib.hid (hb.trans (hb2.mono hb.size))
    clear hb hb2
    go_wp2_with fail
    go_loopw [4, 5] (fun rv mv wr => ∃ (R : ByteArray) (m : Bool), rv = .string R ∧ mv = .bool m ∧ R.size ≤ 1000000 ∧ ((m = true ∧ r = (prt (bs9 R)).all prtB) ∨ (m = false ∧ r = true)) ∧ Below w.heap.size w wr) (fun rv mv _ => acM rv mv)
    case atStart => exact ⟨Y, true, rfl, rfl, hYs', .inl ⟨rfl, E0.out⟩, HB0.out⟩
    case round =>
      obtain ⟨R, m, rfl, rfl, hR, hst, hb⟩ := hrel
      have HB := Lib.hid hb
      clear hb HC E0
      rcases hst with ⟨rfl, hst⟩ | ⟨rfl, hst⟩
      · obtain ⟨P, T, m2, hP, hn1, hn2, hn3, hPs, hcut⟩ := cut_any R hR
        have HC2 : Hid (Calls Tryd.prog 33 #[.string R, .string ⟨#[58]⟩] wr (Ret9 wr (.tuple #[.string P, .string T, .bool m2]))) := hcut wr (HM.out.on HB.out)
        clear hcut
        obtain ⟨b, hbp⟩ : ∃ b, prtB (bs9 P) = b := ⟨_, rfl⟩
        have HBP := Lib.hid hbp
        have hP6 : P.size ≤ 1000000 := by omega
        have hT6 : T.size ≤ 1000000 := by
          cases m2 with
          | true => have := (hn2 rfl).2; omega
          | false => have := hn3 rfl; omega
        have hms : T.size + m2.toNat < R.size + 1 := by
          cases m2 with
          | true => have := (hn2 rfl).2; show T.size + 1 < _; omega
          | false => have := hn3 rfl; show T.size + 0 < _; omega
        have HE : Hid (prtB (hdc (bs9 R)) = b) := by show _ = _; rw [← hP]; exact hbp
        cases b with
        | false =>
          have E : Hid (r = false) := by
            show _ = _
            rw [hst]
            exact all_no (i := 0) (by rw [← List.head?_eq_getElem?, prt_head]) HE.out
          clear hst hn1 hn2 hn3 hbp hP
          go_wp2_with fail
          refine HC2.out.mono ?_; rintro e w3 ⟨rfl, hb⟩
          replace HB := Lib.hid (HB.out.trans (hb.mono HB.out.size)); clear hb
          go_wp2_with fail
          refine (ispart_is HBP.out hP6 _).mono ?_; rintro e w4 ⟨rfl, rfl⟩
          go_wp2_with fail
          go_ret
          exact ⟨rb9 E.out.symm, HB.out⟩
        | true =>
          have E : Hid ((m2 = true ∧ r = (prt (bs9 T)).all prtB) ∨ (m2 = false ∧ r = true)) := by
            show _ ∨ _
            cases m2 with
            | true =>
              refine .inl ⟨rfl, ?_⟩
              rw [hst, prt_cut (hn1.2 rfl), List.all_cons, HE.out, (hn2 rfl).1]; rfl
            | false =>
              refine .inr ⟨rfl, ?_⟩
              have hno : 58 ∉ bs9 R := fun e => by have := hn1.1 e; cases this
              have he := HE.out
              rw [hdc_no hno] at he
              rw [hst, prt_no hno, List.all_cons, he]; rfl
          have HMS := Lib.hid hms
          clear hst hn1 hn2 hn3 hbp hP hms
          go_wp2_with fail
          refine HC2.out.mono ?_; rintro e w3 ⟨rfl, hb⟩
          replace HB := Lib.hid (HB.out.trans (hb.mono HB.out.size)); clear hb
          go_wp2_with fail
          refine (ispart_is HBP.out hP6 _).mono ?_; rintro e w4 ⟨rfl, hw⟩; obtain rfl := hw.symm
          go_wp2_with fail
          go_roundw
          case rel => exact ⟨T, m2, rfl, rfl, hT6, E.out, HB.out⟩
          case measure => rw [acM_eq, acM_eq]; exact HMS.out
      · have E := Lib.hid hst
        clear hst
        go_wp2_with fail
        go_ret
        exact ⟨rb9 E.out.symm, HB.out⟩

set_option maxHeartbeats 4000000 in
set_option maxRecDepth 100000 in
theorem refaccount_is {s : ByteArray} {r : Bool} (h : accB (bs9 s) = r) (hs : s.size ≤ 1000000) (w : World) : Calls Tryd.prog 11 #[.string s] w (Ret9 w (.bool r)) := by
  obtain ⟨z, hz⟩ : ∃ z, rot (bs9 s) = z := ⟨_, rfl⟩
  obtain ⟨n, hn⟩ : ∃ n, (prt (bs9 s)).length = n := ⟨_, rfl⟩
  have hn1 : n = (bs9 s).count 58 + 1 := by rw [← hn, prt_len]
  have HZ := Lib.hid hz
  have HN := Lib.hid hn
  have H := Lib.hid h
  clear h
  rcases Nat.lt_or_ge n 2 with hn2 | hn2
  · have d : decide ((n : Int) < 2) = true := decide_eq_true (by omega)
    have E : Hid (r = false) := by
      show _ = _
      rw [← H.out]; unfold accB
      rw [decide_eq_false (fun e => by have := List.count_pos_iff.2 e; omega), Bool.and_false]; rfl
    clear hz hn hn1 hn2
    go_enter Tryd.func11, Tryd.ntmps11
    go_wp2_with fail
    refine (refparts_any s _ hs).mono ?_; rintro e w1 ⟨A, c, rfl, h, hb⟩
    rw [HN.out] at h ⊢
    have HB := Lib.hid hb
    clear h hb
    go_wp2_with fail
    go_ret
    exact ⟨rb9 E.out.symm, HB.out⟩
  have d : decide ((n : Int) < 2) = false := decide_eq_false (by omega)
  have hmem : 58 ∈ bs9 s := List.count_pos_iff.1 (by omega)
  rcases Nat.eq_zero_or_pos z with z0 | z0
  · have d2 : ((z : Int) == 0) = true := by rw [z0]; rfl
    have E : Hid (r = false) := by show _ = _; rw [← H.out]; unfold accB; rw [hz, z0]; rfl
    clear hz hn hn1 z0 hmem
    go_enter Tryd.func11, Tryd.ntmps11
    go_wp2_with fail
    refine (refparts_any s _ hs).mono ?_; rintro e w1 ⟨A, c, rfl, h, hb⟩
    rw [HN.out] at h ⊢
    have HB := Lib.hid hb
    clear h hb
    go_wp2_with fail
    refine (refroot_is HZ.out hs _).mono ?_; rintro e w2 ⟨rfl, hb⟩
    replace HB := Lib.hid (HB.out.trans (hb.mono HB.out.size)); clear hb
    go_wp2_with fail
    go_ret
    exact ⟨rb9 E.out.symm, HB.out⟩
  have d2 : ((z : Int) == 0) = false := by rw [beq_eq_false_iff_ne]; omega
  have HE : Hid (r = (prt (bs9 s)).tail.all prtB) := by
    show _ = _
    rw [← H.out]; unfold accB
    rw [hz, show (z == 0) = false by rw [beq_eq_false_iff_ne]; omega, decide_eq_true hmem]; rfl
  obtain ⟨n1, hn3⟩ : ∃ n1, n1 + 1 = n := ⟨n - 1, by omega⟩
  have en : (n : Int) - 1 = (n1 : Int) := by omega
  have HT : Hid ((prt (bs9 s)).tail.length = n1) := by show _ = _; rw [List.length_tail, hn]; omega
  have h1n : (1 : Int) ≤ (n : Int) := by omega
  clear hz hn hn1 z0 hmem
  go_enter Tryd.func11, Tryd.ntmps11
  go_wp2_with fail
  refine (refparts_any s _ hs).mono ?_; rintro e w1 ⟨A, c, rfl, h, hb⟩
  rw [HN.out] at h ⊢
  have HB := Lib.hid hb
  obtain ⟨b, o, rfl, r1, r2, r3, _, _, _⟩ := h.at_ (k := 0) (by omega)
  have r2' : c ≤ 9223372036854775807 := r2
  have r2i : (n : Int) ≤ (c : Int) := by omega
  have r2j : (1 : Int) < (c : Int) := by omega
  have RP := Lib.hid h
  clear h hb
  go_wp2_with fail
  refine (refroot_is HZ.out hs _).mono ?_; rintro e w2 ⟨rfl, hb⟩
  replace HB := Lib.hid (HB.out.trans (hb.mono HB.out.size)); replace RP := Lib.hid (RP.out.on hb); clear hb r3 r2
  go_wp2_with fail
  go_loopw [19] (fun jv wr => ∃ j : Nat, jv = .int .i64 j ∧ j ≤ n1 ∧ ((prt (bs9 s)).tail.take j).all prtB = true ∧ RdP wr (some ⟨b, o, none⟩) n c (prt (bs9 s)) ∧ Below w.heap.size w wr) (fun jv _ => n1 - (intOf jv).toNat)
  case atStart => exact ⟨0, rfl, Nat.zero_le _, rfl, RP.out, HB.out⟩
  case round =>
    obtain ⟨j, rfl, hj, hall, hrp, hb⟩ := hrel
    clear RP HB
    have HA := Lib.hid hall
    have RP := Lib.hid hrp
    have HB := Lib.hid hb
    clear hall hrp hb
    rcases Nat.lt_or_ge j n1 with hlt | hge
    · obtain ⟨b', o', hbo, q1, q2, q3, t, q4, q5⟩ := RP.out.at_ (k := j + 1) (by omega)
      obtain ⟨rfl, rfl⟩ : b' = b ∧ o' = o := by
        have := Option.some.inj hbo
        exact ⟨(congrArg Addr.block this).symm, (congrArg Addr.off this).symm⟩
      have q6 : wr.cell? ⟨b', o' + 1 + j, none⟩ = some (.string (st9 t)) := by rw [show o' + 1 + j = o' + (j + 1) by omega]; exact q5
      have htl : (prt (bs9 s)).tail[j]? = some t := by rw [List.getElem?_tail]; exact q4
      have htb : bs9 (st9 t) = t := bs9_st9 fun x hx => bs9_lt s x (prt_mem _ t (List.mem_of_getElem? q4) x hx)
      obtain ⟨T, hT⟩ : ∃ T, st9 t = T := ⟨_, rfl⟩
      rw [hT] at q6 htb
      have hTs : T.size ≤ 1000000 := by
        rw [← bs9_len T, htb]
        have : t.length ≤ (bs9 s).length := by
          have e := jnc_prt (bs9 s)
          obtain ⟨p, q, hpq⟩ := List.append_of_mem (List.mem_of_getElem? q4)
          rw [hpq] at e
          rw [← e]
          exact jnc_mem p q t
        rw [bs9_len] at this; omega
      have HTL := Lib.hid htl
      have HTB := Lib.hid htb
      clear q4 q5 q2 htl htb hbo hT
      obtain ⟨v, hv⟩ : ∃ v, prtB (bs9 T) = v := ⟨_, rfl⟩
      have HV := Lib.hid hv
      clear hv
      cases v with
      | false =>
        have E : Hid (r = false) := by
          show _ = _
          rw [HE.out]
          exact all_no HTL.out (by rw [← HTB.out]; exact HV.out)
        go_wp2_with fail
        refine (refpart_is HV.out hTs _).mono ?_; rintro e w4 ⟨rfl, rfl⟩
        go_wp2_with fail
        go_ret
        exact ⟨rb9 E.out.symm, HB.out⟩
      | true =>
        have HA2 : Hid (((prt (bs9 s)).tail.take (j + 1)).all prtB = true) := all_step HTL.out HA.out (by rw [← HTB.out]; exact HV.out)
        go_wp2_with fail
        refine (refpart_is HV.out hTs _).mono ?_; rintro e w4 ⟨rfl, hw⟩; obtain rfl := hw.symm
        go_wp2_with fail
        go_roundw
        case rel => exact ⟨j + 1, by go_num, by omega, HA2.out, RP.out, HB.out⟩
        case measure => simp [intOf] <;> omega
    · have E : Hid (r = true) := by show _ = _; rw [HE.out]; exact all_end (by rw [HT.out]; exact hge) HA.out
      go_wp2_with fail
      go_ret
      exact ⟨rb9 E.out.symm, HB.out⟩

end Go.Proofs.YtaaikbbgbnbmkaaDoor
