/-
  Contracts of layer 11: Glob.
-/
import Derived.Test.YtaaikbbgbnbmkaaDoorNamL
import Derived.Test.YtaaikbbgbnbmkaaDoorNamJ
set_option linter.unusedVariables false
set_option linter.unusedSimpArgs false
namespace Go.Proofs.YtaaikbbgbnbmkaaDoor
open Go.RowKit

/-- b tells whether s is what the pattern says. -/
def GB (p s : List Nat) (b : Bool) : Prop := gm p s ↔ b = true
theorem gb_any (p s : List Nat) : ∃ b, GB p s b := ⟨@decide _ (Classical.propDecidable _), (@decide_eq_true_iff _ (Classical.propDecidable _)).symm⟩
theorem gb_not {p s : List Nat} {b : Bool} (h : GB p s b) (h2 : ¬ gm p s) : b = false := by
  cases b with
  | false => rfl
  | true => exact absurd (h.2 rfl) h2
theorem gb_end {p s : List Nat} {b c : Bool} (h : GB p s b) (h2 : gm p s ↔ c = true) : c = b := by
  rw [Bool.eq_iff_iff, ← h2]; exact h
/-- What the loop knows: z and y are the program's own names for the last star. -/
def GZ (p s : List Nat) (i k : Nat) (z y : Int) : Prop := (z = -1 ∧ y = 0 ∧ GS p s i k none) ∨ ∃ b t : Nat, z = (b : Int) ∧ y = (t : Int) ∧ GS p s i k (some (b, t))
theorem GZ.le {p s : List Nat} {i k : Nat} {z y : Int} (h : GZ p s i k z y) : i ≤ p.length ∧ k ≤ s.length ∧ z.toNat ≤ i ∧ y.toNat ≤ k := by
  rcases h with ⟨rfl, rfl, h⟩ | ⟨b, t, rfl, rfl, h⟩
  · exact ⟨h.1, h.2.1, Nat.zero_le _, Nat.zero_le _⟩
  · exact ⟨h.le.1, h.le.2, h.le2.1, h.le2.2⟩
theorem GZ.star {p s : List Nat} {i k : Nat} {z y : Int} (h : GZ p s i k z y) (hc : p[i]? = some 42) : GZ p s (i + 1) k ((i + 1 : Nat) : Int) (k : Int) := by
  rcases h with ⟨_, _, h⟩ | ⟨b, t, _, _, h⟩
  · exact .inr ⟨_, _, rfl, rfl, h.star hc⟩
  · exact .inr ⟨_, _, rfl, rfl, h.star hc⟩
theorem GZ.byte {p s : List Nat} {i k : Nat} {z y : Int} (h : GZ p s i k z y) {c x : Nat} (hc : p[i]? = some c) (hx : s[k]? = some x) (h1 : c ≠ 42) (h2 : c = 63 ∨ c = x) : GZ p s (i + 1) (k + 1) z y := by
  rcases h with ⟨e1, e2, h⟩ | ⟨b, t, e1, e2, h⟩
  · exact .inl ⟨e1, e2, h.byte hc hx h1 h2⟩
  · exact .inr ⟨b, t, e1, e2, h.byte hc hx h1 h2⟩
theorem GZ.ended {p s : List Nat} {i k : Nat} {z y : Int} (h : GZ p s i k z y) (hk : s.length ≤ k) : gm p s ↔ stars (p.drop i) = true := by
  rcases h with ⟨_, _, h⟩ | ⟨b, t, _, _, h⟩
  · exact h.ended hk
  · exact h.ended hk
theorem at_one {p : ByteArray} {i : Nat} (h : i < p.size) : ∃ c, (bs9 p)[i]? = some c ∧ bs9 (p.extract i (i + 1)) = [c] := by
  refine ⟨_, bs9_at p i h, ?_⟩
  rw [bs9_extract, bs9_get p i h, show i + 1 - i = 1 by omega]; rfl
theorem ext_nil {p : ByteArray} {i : Nat} (h : p.size ≤ i) : p.extract i p.size = ⟨#[]⟩ := bs9_inj (by
  rw [bs9_extract, show p.size - i = 0 by omega, List.take_zero]; rfl)

set_option maxHeartbeats 4000000 in
set_option maxRecDepth 100000 in
theorem glob_is {p s : ByteArray} {r : Bool} (h : GB (bs9 p) (bs9 s) r) (hp : p.size ≤ 1000000) (hs : s.size ≤ 1000000) (w : World) : Calls Tryd.prog 29 #[.string p, .string s] w (fun e w' => e = .returned (.bool r) ∧ w' = w) := by
  have H := Lib.hid h
  clear h
  have HLP : Hid ((bs9 p).length = p.size) := bs9_len p
  have HLS : Hid ((bs9 s).length = s.size) := bs9_len s
  go_enter Tryd.func29, Tryd.ntmps29
  go_wp2_with fail
  go_loopw [5, 6, 7, 8] (fun nv av bv tv wr => ∃ (i k : Nat) (z y : Int), nv = .int .i64 i ∧ av = .int .i64 k ∧ bv = .int .i64 z ∧ tv = .int .i64 y ∧ i ≤ p.size ∧ k ≤ s.size ∧ GZ (bs9 p) (bs9 s) i k z y ∧ wr = w) (fun _ av bv tv _ => lexM p.size s.size (intOf bv).toNat (intOf tv).toNat (intOf av).toNat)
  case atStart => exact ⟨0, 0, -1, 0, rfl, rfl, rfl, rfl, Nat.zero_le _, Nat.zero_le _, .inl ⟨rfl, rfl, GS.start⟩, rfl⟩
  case round =>
    obtain ⟨i, k, z, y, rfl, rfl, rfl, rfl, hi, hk, hg, rfl⟩ := hrel
    have G := Lib.hid hg
    clear hg
    have GL : Hid (z.toNat ≤ i ∧ y.toNat ≤ k) := ⟨G.out.le.2.2.1, G.out.le.2.2.2⟩
    obtain ⟨i1, hi1⟩ : ∃ i1, i1 = i + 1 := ⟨_, rfl⟩
    obtain ⟨k1, hk1⟩ : ∃ k1, k1 = k + 1 := ⟨_, rfl⟩
    have ei : (i : Int) + 1 = (i1 : Int) := by omega
    have ek : (k : Int) + 1 = (k1 : Int) := by omega
    rcases Nat.lt_or_ge k s.size with hlt | hge
    · have dk : decide ((k : Int) < (s.size : Int)) = true := decide_eq_true (by omega)
      obtain ⟨x, hx, hx2⟩ := at_one hlt
      obtain ⟨Y, hY⟩ : ∃ Y, s.extract k k1 = Y := ⟨_, rfl⟩
      have hslY : ∀ w', (Instr.slice 9 (.string s) (some (.int .i64 (k : Int))) (some (.int .i64 (k1 : Int))) none).run Tryd.prog w' = .ok (.string Y) w' := sl_both (by omega) (by omega) hY
      have HYB : Hid (bs9 Y = [x]) := by show _ = _; rw [← hY, hk1]; exact hx2
      have HX := Lib.hid hx
      clear hx hx2 hY
      rcases Nat.lt_or_ge i p.size with hip | hip
      · obtain ⟨c, hc, hc2⟩ := at_one hip
        obtain ⟨Q, hQ⟩ : ∃ Q, p.extract i i1 = Q := ⟨_, rfl⟩
        have hslQ : ∀ w', (Instr.slice 9 (.string p) (some (.int .i64 (i : Int))) (some (.int .i64 (i1 : Int))) none).run Tryd.prog w' = .ok (.string Q) w' := sl_both (by omega) (by omega) hQ
        have hmn := min_gen (P := Tryd.prog) (x := (i1 : Int)) (y := (p.size : Int)) (z := (i1 : Int)) (by omega)
        have HQB : Hid (bs9 Q = [c]) := by show _ = _; rw [← hQ, hi1]; exact hc2
        have HC := Lib.hid hc
        clear hc hc2 hQ
        by_cases h42 : c = 42
        · have d1 : (Q.toList == ([42] : List UInt8)) = true := lit_yes (HQB.out.trans (by rw [h42]; rfl))
          have GN : Hid (GZ (bs9 p) (bs9 s) i1 k (i1 : Int) (k : Int)) := by show GZ _ _ _ _ _ _; rw [hi1]; exact G.out.star (by rw [HC.out, h42])
          have HI : Hid (i1 = i + 1 ∧ i1 ≤ p.size) := ⟨hi1, by omega⟩
          clear h42 hi1 hk1
          go_wp2_with fail
          go_roundw
          case rel => exact ⟨i1, k, _, _, by first | rfl | go_num, rfl, by first | rfl | go_num, rfl, HI.out.2, hk, GN.out, trivial⟩
          case measure => exact lexM_b (by have := GL.out; have := HI.out; simp [intOf] <;> omega) (by have := HI.out; simp [intOf] <;> omega)
        · have d1 : (Q.toList == ([42] : List UInt8)) = false := lit_not (fun e => h42 (by have := HQB.out.symm.trans e; exact (List.cons.inj this).1))
          by_cases h63 : c = 63
          · have d2 : (Q.toList == ([63] : List UInt8)) = true := lit_yes (HQB.out.trans (by rw [h63]; rfl))
            have GN : Hid (GZ (bs9 p) (bs9 s) i1 k1 z y) := by show GZ _ _ _ _ _ _; rw [hi1, hk1]; exact G.out.byte HC.out HX.out h42 (.inl h63)
            have HI : Hid (k1 = k + 1 ∧ i1 ≤ p.size ∧ k1 ≤ s.size) := ⟨hk1, by omega, by omega⟩
            clear h42 h63 hi1 hk1
            go_wp2_with fail
            go_roundw
            case rel => exact ⟨i1, k1, z, y, by first | rfl | go_num, by first | rfl | go_num, rfl, rfl, HI.out.2.1, HI.out.2.2, GN.out, trivial⟩
            case measure => exact lexM_k (by have := HI.out; simp [intOf] <;> omega) (by have := HI.out; simp [intOf] <;> omega)
          · have d2 : (Q.toList == ([63] : List UInt8)) = false := lit_not (fun e => h63 (by have := HQB.out.symm.trans e; exact (List.cons.inj this).1))
            by_cases hcx : c = x
            · have d3 : (Q.toList == Y.toList) = true := eq_yes (bs9_inj (by rw [HQB.out, HYB.out, hcx]))
              have GN : Hid (GZ (bs9 p) (bs9 s) i1 k1 z y) := by show GZ _ _ _ _ _ _; rw [hi1, hk1]; exact G.out.byte HC.out HX.out h42 (.inr hcx)
              have HI : Hid (k1 = k + 1 ∧ i1 ≤ p.size ∧ k1 ≤ s.size) := ⟨hk1, by omega, by omega⟩
              clear h42 h63 hcx hi1 hk1
              go_wp2_with fail
              go_roundw
              case rel => exact ⟨i1, k1, z, y, by first | rfl | go_num, by first | rfl | go_num, rfl, rfl, HI.out.2.1, HI.out.2.2, GN.out, trivial⟩
              case measure => exact lexM_k (by have := HI.out; simp [intOf] <;> omega) (by have := HI.out; simp [intOf] <;> omega)
            · have d3 : (Q.toList == Y.toList) = false := eq_not (fun e => hcx (by have := HQB.out; rw [e, HYB.out] at this; exact (List.cons.inj this).1.symm))
              have MS : Hid (Miss (bs9 p) (bs9 s) i k) := ⟨x, HX.out, .inr ⟨c, HC.out, h42, h63, hcx⟩⟩
              clear h42 h63 hcx hi1 hk1
              rcases G.out with ⟨z1, y1, g⟩ | ⟨b, t, z1, y1, g⟩
              · have E : Hid (r = false) := gb_not H.out (g.fail MS.out)
                subst z1
                clear y1 g
                go_wp2_with fail
                go_ret
                exact ⟨rb9 E.out.symm, rfl⟩
              · obtain ⟨gt, gn⟩ := g.back MS.out
                rw [HLS.out] at gt
                obtain ⟨t1, ht1⟩ : ∃ t1, t1 = t + 1 := ⟨_, rfl⟩
                have et : (t : Int) + 1 = (t1 : Int) := by omega
                have GN : Hid (GZ (bs9 p) (bs9 s) b t1 (b : Int) (t1 : Int)) := by show GZ _ _ _ _ _ _; rw [ht1]; exact .inr ⟨_, _, rfl, rfl, gn⟩
                have HI : Hid (t1 = t + 1 ∧ b ≤ p.size ∧ t1 ≤ s.size) := ⟨ht1, by have := g.le2.1; omega, by omega⟩
                have dz : decide ((0 : Int) ≤ (b : Int)) = true := decide_eq_true (by omega)
                have hts : t1 ≤ s.size := by omega
                subst z1; subst y1
                clear g gn gt ht1
                go_wp2_with fail
                go_roundw
                case rel => exact ⟨b, t1, _, _, by first | rfl | go_num, by first | rfl | go_num, rfl, by first | rfl | go_num, HI.out.2.1, HI.out.2.2, GN.out, trivial⟩
                case measure => exact lexM_t (by have := HI.out; simp [intOf] <;> omega) (by have := HI.out; simp [intOf] <;> omega)
      · obtain rfl : i = p.size := by omega
        have hslQ : ∀ w', (Instr.slice 9 (.string p) (some (.int .i64 (p.size : Int))) (some (.int .i64 (p.size : Int))) none).run Tryd.prog w' = .ok (.string ⟨#[]⟩) w' := sl_both (Nat.le_refl _) (Nat.le_refl _) (ext_nil (Nat.le_refl _))
        have hmn := min_gen (P := Tryd.prog) (x := (i1 : Int)) (y := (p.size : Int)) (z := (p.size : Int)) (by omega)
        obtain ⟨Q, hQ⟩ : ∃ Q : ByteArray, Q = ⟨#[]⟩ := ⟨_, rfl⟩
        rw [← hQ] at hslQ
        have d1 : (Q.toList == ([42] : List UInt8)) = false := lit_not (by rw [hQ]; decide)
        have d2 : (Q.toList == ([63] : List UInt8)) = false := lit_not (by rw [hQ]; decide)
        have d3 : (Q.toList == Y.toList) = false := eq_not (fun e => by have := HYB.out; rw [← e, hQ] at this; cases this)
        have MS : Hid (Miss (bs9 p) (bs9 s) p.size k) := ⟨x, HX.out, .inl (List.getElem?_eq_none_iff.2 (by rw [HLP.out]; exact Nat.le_refl _))⟩
        clear hQ hi1 hk1
        rcases G.out with ⟨z1, y1, g⟩ | ⟨b, t, z1, y1, g⟩
        · have E : Hid (r = false) := gb_not H.out (g.fail MS.out)
          subst z1
          clear y1 g
          go_wp2_with fail
          go_ret
          exact ⟨rb9 E.out.symm, rfl⟩
        · obtain ⟨gt, gn⟩ := g.back MS.out
          rw [HLS.out] at gt
          obtain ⟨t1, ht1⟩ : ∃ t1, t1 = t + 1 := ⟨_, rfl⟩
          have et : (t : Int) + 1 = (t1 : Int) := by omega
          have GN : Hid (GZ (bs9 p) (bs9 s) b t1 (b : Int) (t1 : Int)) := by show GZ _ _ _ _ _ _; rw [ht1]; exact .inr ⟨_, _, rfl, rfl, gn⟩
          have HI : Hid (t1 = t + 1 ∧ b ≤ p.size ∧ t1 ≤ s.size) := ⟨ht1, by have := g.le2.1; omega, by omega⟩
          have dz : decide ((0 : Int) ≤ (b : Int)) = true := decide_eq_true (by omega)
          have hts : t1 ≤ s.size := by omega
          subst z1; subst y1
          clear g gn gt ht1
          go_wp2_with fail
          go_roundw
          case rel => exact ⟨b, t1, _, _, by first | rfl | go_num, by first | rfl | go_num, rfl, by first | rfl | go_num, HI.out.2.1, HI.out.2.2, GN.out, trivial⟩
          case measure => exact lexM_t (by have := HI.out; simp [intOf] <;> omega) (by have := HI.out; simp [intOf] <;> omega)
    · have dk : decide ((k : Int) < (s.size : Int)) = false := decide_eq_false (by omega)
      obtain ⟨P, hP⟩ : ∃ P, p.extract i p.size = P := ⟨_, rfl⟩
      have hslP : ∀ w', (Instr.slice 9 (.string p) (some (.int .i64 (i : Int))) none none).run Tryd.prog w' = .ok (.string P) w' := sl_from hi hP
      have E : Hid ((bs9 P).all (fun c => c == 42) = r) := by
        show _ = _
        rw [← hP, bs9_drop]
        exact gb_end H.out (G.out.ended (by rw [HLS.out]; exact hge))
      have hPs : P.size ≤ 1000000 := by rw [← hP]; simp only [ByteArray.size_extract]; omega
      clear hP hi1 hk1 ei ek
      go_wp2_with fail
      refine (just_is (f := fun c => c == 42) (by decide +kernel) E.out hPs).mono ?_; rintro e w3 ⟨rfl, rfl⟩
      go_wp2_with fail
      go_ret
      exact ⟨rfl, rfl⟩

end Go.Proofs.YtaaikbbgbnbmkaaDoor
