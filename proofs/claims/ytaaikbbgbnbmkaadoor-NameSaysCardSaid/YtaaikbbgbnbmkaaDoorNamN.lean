/-
  Contracts of layer 11: the document's Glob.
-/
import Derived.Test.YtaaikbbgbnbmkaaDoorNamM
set_option linter.unusedVariables false
set_option linter.unusedSimpArgs false
namespace Go.Proofs.YtaaikbbgbnbmkaaDoor
open Go.RowKit

/-- What the loop knows: z is the last star's place. -/
def GR (p s : List Nat) (i k : Nat) (z y : Int) : Prop := (z = -1 ∧ y = 0 ∧ GS p s i k none) ∨ ∃ q t : Nat, z = (q : Int) ∧ y = (t : Int) ∧ GS p s i k (some (q + 1, t))
theorem GR.le {p s : List Nat} {i k : Nat} {z y : Int} (h : GR p s i k z y) : (z + 1).toNat ≤ i ∧ y.toNat ≤ k := by
  rcases h with ⟨rfl, rfl, h⟩ | ⟨q, t, rfl, rfl, h⟩
  · exact ⟨Nat.zero_le _, Nat.zero_le _⟩
  · have := h.le2; omega
theorem GR.star {p s : List Nat} {i k : Nat} {z y : Int} (h : GR p s i k z y) (hc : p[i]? = some 42) : GR p s (i + 1) k (i : Int) (k : Int) := by
  rcases h with ⟨_, _, h⟩ | ⟨q, t, _, _, h⟩
  · exact .inr ⟨_, _, rfl, rfl, h.star hc⟩
  · exact .inr ⟨_, _, rfl, rfl, h.star hc⟩
theorem GR.byte {p s : List Nat} {i k : Nat} {z y : Int} (h : GR p s i k z y) {c x : Nat} (hc : p[i]? = some c) (hx : s[k]? = some x) (h1 : c ≠ 42) (h2 : c = 63 ∨ c = x) : GR p s (i + 1) (k + 1) z y := by
  rcases h with ⟨e1, e2, h⟩ | ⟨q, t, e1, e2, h⟩
  · exact .inl ⟨e1, e2, h.byte hc hx h1 h2⟩
  · exact .inr ⟨q, t, e1, e2, h.byte hc hx h1 h2⟩
theorem GR.ended {p s : List Nat} {i k : Nat} {z y : Int} (h : GR p s i k z y) (hk : s.length ≤ k) : gm p s ↔ stars (p.drop i) = true := by
  rcases h with ⟨_, _, h⟩ | ⟨q, t, _, _, h⟩
  · exact h.ended hk
  · exact h.ended hk

set_option maxHeartbeats 4000000 in
set_option maxRecDepth 100000 in
theorem refglob_is {p s : ByteArray} {r : Bool} (h : GB (bs9 p) (bs9 s) r) (hp : p.size ≤ 1000000) (hs : s.size ≤ 1000000) (w : World) : Calls Tryd.prog 30 #[.string p, .string s] w (Ret9 w (.bool r)) := by
  have H := Lib.hid h
  clear h
  have HLP : Hid ((bs9 p).length = p.size) := bs9_len p
  have HLS : Hid ((bs9 s).length = s.size) := bs9_len s
  go_enter Tryd.func30, Tryd.ntmps30
  go_wp2_with fail
  go_loopw [5, 6, 7, 8] (fun nv av bv tv wr => ∃ (i k : Nat) (z y : Int), nv = .int .i64 i ∧ av = .int .i64 k ∧ bv = .int .i64 z ∧ tv = .int .i64 y ∧ i ≤ p.size ∧ k ≤ s.size ∧ GR (bs9 p) (bs9 s) i k z y ∧ Below w.heap.size w wr) (fun _ av bv tv _ => lexM p.size s.size (intOf bv + 1).toNat (intOf tv).toNat (intOf av).toNat)
  case atStart => exact ⟨0, 0, -1, 0, rfl, rfl, rfl, rfl, Nat.zero_le _, Nat.zero_le _, .inl ⟨rfl, rfl, GS.start⟩, Below.refl _ _⟩
  case round =>
    obtain ⟨i, k, z, y, rfl, rfl, rfl, rfl, hi, hk, hg, hbl⟩ := hrel
    have G := Lib.hid hg
    have HB := Lib.hid hbl
    clear hg hbl
    have HQ : Hid (∀ n, Below w.heap.size w (wr.drewN n)) := fun n => HB.out.trans ((below_drewN _ _).mono HB.out.size)
    have GL : Hid ((z + 1).toNat ≤ i ∧ y.toNat ≤ k) := G.out.le
    obtain ⟨i1, hi1⟩ : ∃ i1, i1 = i + 1 := ⟨_, rfl⟩
    obtain ⟨k1, hk1⟩ : ∃ k1, k1 = k + 1 := ⟨_, rfl⟩
    have ei : (i : Int) + 1 = (i1 : Int) := by omega
    have ek : (k : Int) + 1 = (k1 : Int) := by omega
    rcases Nat.lt_or_ge k s.size with hlt | hge
    · have dk : decide ((k : Int) < (s.size : Int)) = true := decide_eq_true (by omega)
      obtain ⟨x, hx⟩ : ∃ x, x = (s[k]'hlt).toNat := ⟨_, rfl⟩
      have ex : ((s[k]'hlt).toNat : Int) = (x : Int) := by rw [hx]
      have HX : Hid ((bs9 s)[k]? = some x) := by show _ = _; rw [bs9_at s k hlt, hx]
      clear hx
      rcases Nat.lt_or_ge i p.size with hip | hip
      · have di : decide ((i : Int) < (p.size : Int)) = true := decide_eq_true (by omega)
        have di' : decide (i < p.size) = true := decide_eq_true hip
        obtain ⟨c, hc⟩ : ∃ c, c = (p[i]'hip).toNat := ⟨_, rfl⟩
        have ec : ((p[i]'hip).toNat : Int) = (c : Int) := by rw [hc]
        have HC : Hid ((bs9 p)[i]? = some c) := by show _ = _; rw [bs9_at p i hip, hc]
        clear hc
        by_cases h42 : c = 42
        · have d1 : ((c : Int) == 42) = true := by rw [h42]; rfl
          have GN : Hid (GR (bs9 p) (bs9 s) i1 k (i : Int) (k : Int)) := by show GR _ _ _ _ _ _; rw [hi1]; exact G.out.star (by rw [HC.out, h42])
          have HI : Hid (i1 = i + 1 ∧ i1 ≤ p.size) := ⟨hi1, by omega⟩
          clear h42 hi1 hk1
          go_wp2_with fail
          go_roundw
          case rel => exact ⟨i1, k, _, _, by first | rfl | go_num, rfl, by first | rfl | go_num, rfl, HI.out.2, hk, GN.out, HB.out⟩
          case measure => exact lexM_b (by have := GL.out; have := HI.out; simp [intOf] <;> omega) (by have := HI.out; simp [intOf] <;> omega)
        · have d1 : ((c : Int) == 42) = false := by rw [beq_eq_false_iff_ne]; omega
          by_cases hcx : c = x
          · have d3 : ((c : Int) == (x : Int)) = true := by rw [hcx, beq_self_eq_true]
            have GN : Hid (GR (bs9 p) (bs9 s) i1 k1 z y) := by show GR _ _ _ _ _ _; rw [hi1, hk1]; exact G.out.byte HC.out HX.out h42 (.inr hcx)
            have HI : Hid (k1 = k + 1 ∧ i1 ≤ p.size ∧ k1 ≤ s.size) := ⟨hk1, by omega, by omega⟩
            clear h42 hcx hi1 hk1
            go_wp2_with fail
            go_quiet (fail)
            go_wp2_with fail
            go_roundw
            case rel => exact ⟨i1, k1, z, y, by first | rfl | go_num, by first | rfl | go_num, rfl, rfl, HI.out.2.1, HI.out.2.2, GN.out, HQ.out _⟩
            case measure => exact lexM_k (by have := HI.out; simp [intOf] <;> omega) (by have := HI.out; simp [intOf] <;> omega)
          · have d3 : ((c : Int) == (x : Int)) = false := by rw [beq_eq_false_iff_ne]; omega
            by_cases h63 : c = 63
            · have d2 : ((c : Int) == 63) = true := by rw [h63]; rfl
              have GN : Hid (GR (bs9 p) (bs9 s) i1 k1 z y) := by show GR _ _ _ _ _ _; rw [hi1, hk1]; exact G.out.byte HC.out HX.out h42 (.inl h63)
              have HI : Hid (k1 = k + 1 ∧ i1 ≤ p.size ∧ k1 ≤ s.size) := ⟨hk1, by omega, by omega⟩
              clear h42 hcx h63 hi1 hk1
              go_wp2_with fail
              go_quiet (fail)
              go_wp2_with fail
              go_roundw
              case rel => exact ⟨i1, k1, z, y, by first | rfl | go_num, by first | rfl | go_num, rfl, rfl, HI.out.2.1, HI.out.2.2, GN.out, HQ.out _⟩
              case measure => exact lexM_k (by have := HI.out; simp [intOf] <;> omega) (by have := HI.out; simp [intOf] <;> omega)
            · have d2 : ((c : Int) == 63) = false := by rw [beq_eq_false_iff_ne]; omega
              have MS : Hid (Miss (bs9 p) (bs9 s) i k) := ⟨x, HX.out, .inr ⟨c, HC.out, h42, h63, hcx⟩⟩
              clear h42 hcx h63 hi1 hk1
              rcases G.out with ⟨z1, y1, g⟩ | ⟨b, t, z1, y1, g⟩
              · have E : Hid (r = false) := gb_not H.out (g.fail MS.out)
                subst z1
                clear y1 g
                go_wp2_with fail
                go_quiet (fail)
                go_wp2_with fail
                go_ret
                exact ⟨rb9 E.out.symm, HQ.out _⟩
              · obtain ⟨gt, gn⟩ := g.back MS.out
                rw [HLS.out] at gt
                obtain ⟨t1, ht1⟩ : ∃ t1, t1 = t + 1 := ⟨_, rfl⟩
                obtain ⟨b1, hb1⟩ : ∃ b1, b1 = b + 1 := ⟨_, rfl⟩
                have et : (t : Int) + 1 = (t1 : Int) := by omega
                have eb : (b : Int) + 1 = (b1 : Int) := by omega
                have GN : Hid (GR (bs9 p) (bs9 s) b1 t1 (b : Int) (t1 : Int)) := by show GR _ _ _ _ _ _; rw [ht1, hb1]; exact .inr ⟨_, _, rfl, rfl, gn⟩
                have HI : Hid (t1 = t + 1 ∧ b1 ≤ p.size ∧ t1 ≤ s.size) := ⟨ht1, by have := g.le2.1; omega, by omega⟩
                have dz : decide ((0 : Int) ≤ (b : Int)) = true := decide_eq_true (by omega)
                have hts : t1 ≤ s.size := by omega
                have hbs : b1 ≤ p.size := by have := g.le2.1; omega
                subst z1; subst y1
                clear g gn gt ht1 hb1
                go_wp2_with fail
                go_quiet (fail)
                go_wp2_with fail
                go_roundw
                case rel => exact ⟨b1, t1, _, _, by first | rfl | go_num, by first | rfl | go_num, rfl, by first | rfl | go_num, HI.out.2.1, HI.out.2.2, GN.out, HQ.out _⟩
                case measure => exact lexM_t (by have := HI.out; simp [intOf] <;> omega) (by have := HI.out; simp [intOf] <;> omega)
      · have di : decide ((i : Int) < (p.size : Int)) = false := decide_eq_false (by omega)
        have di' : decide (i < p.size) = false := decide_eq_false (by omega)
        have MS : Hid (Miss (bs9 p) (bs9 s) i k) := ⟨x, HX.out, .inl (List.getElem?_eq_none_iff.2 (by rw [HLP.out]; exact hip))⟩
        clear hi1 hk1
        rcases G.out with ⟨z1, y1, g⟩ | ⟨b, t, z1, y1, g⟩
        · have E : Hid (r = false) := gb_not H.out (g.fail MS.out)
          subst z1
          clear y1 g
          go_wp2_with fail
          go_quiet (fail)
          go_wp2_with fail
          go_ret
          exact ⟨rb9 E.out.symm, HQ.out _⟩
        · obtain ⟨gt, gn⟩ := g.back MS.out
          rw [HLS.out] at gt
          obtain ⟨t1, ht1⟩ : ∃ t1, t1 = t + 1 := ⟨_, rfl⟩
          obtain ⟨b1, hb1⟩ : ∃ b1, b1 = b + 1 := ⟨_, rfl⟩
          have et : (t : Int) + 1 = (t1 : Int) := by omega
          have eb : (b : Int) + 1 = (b1 : Int) := by omega
          have GN : Hid (GR (bs9 p) (bs9 s) b1 t1 (b : Int) (t1 : Int)) := by show GR _ _ _ _ _ _; rw [ht1, hb1]; exact .inr ⟨_, _, rfl, rfl, gn⟩
          have HI : Hid (t1 = t + 1 ∧ b1 ≤ p.size ∧ t1 ≤ s.size) := ⟨ht1, by have := g.le2.1; omega, by omega⟩
          have dz : decide ((0 : Int) ≤ (b : Int)) = true := decide_eq_true (by omega)
          have hts : t1 ≤ s.size := by omega
          have hbs : b1 ≤ p.size := by have := g.le2.1; omega
          subst z1; subst y1
          clear g gn gt ht1 hb1
          go_wp2_with fail
          go_quiet (fail)
          go_wp2_with fail
          go_roundw
          case rel => exact ⟨b1, t1, _, _, by first | rfl | go_num, by first | rfl | go_num, rfl, by first | rfl | go_num, HI.out.2.1, HI.out.2.2, GN.out, HQ.out _⟩
          case measure => exact lexM_t (by have := HI.out; simp [intOf] <;> omega) (by have := HI.out; simp [intOf] <;> omega)
    · have dk : decide ((k : Int) < (s.size : Int)) = false := decide_eq_false (by omega)
      have E0 : Hid (stars ((bs9 p).drop i) = r) := gb_end H.out (G.out.ended (by rw [HLS.out]; exact hge))
      clear hi1 hk1 ei ek GL HQ
      obtain ⟨wo, rfl⟩ : ∃ wo : World, wo = wr := ⟨_, rfl⟩
      go_wp2_with fail
      go_loopw [5] (fun nv wr => ∃ j : Nat, nv = .int .i64 j ∧ j ≤ p.size ∧ stars ((bs9 p).drop j) = r ∧ wr = wo) (fun nv _ => p.size - (intOf nv).toNat)
      case atStart => exact ⟨i, rfl, hi, E0.out, rfl⟩
      case round =>
        obtain ⟨j, rfl, hj, hst, rfl⟩ := hrel
        have ST := Lib.hid hst
        clear hst
        rcases Nat.lt_or_ge j p.size with hjp | hjp
        · have dj : decide ((j : Int) < (p.size : Int)) = true := decide_eq_true (by omega)
          have dj' : decide (j < p.size) = true := decide_eq_true hjp
          obtain ⟨c, hc⟩ : ∃ c, c = (p[j]'hjp).toNat := ⟨_, rfl⟩
          have ec : ((p[j]'hjp).toNat : Int) = (c : Int) := by rw [hc]
          have HC : Hid ((bs9 p)[j]? = some c) := by show _ = _; rw [bs9_at p j hjp, hc]
          clear hc
          by_cases h42 : c = 42
          · have d1 : ((c : Int) == 42) = true := by rw [h42]; rfl
            have SN : Hid (stars ((bs9 p).drop (j + 1)) = r) := by show _ = _; rw [← stars_step (by rw [HC.out, h42])]; exact ST.out
            clear h42
            go_wp2_with fail
            go_roundw
            case rel => exact ⟨j + 1, by go_num, by omega, SN.out, trivial⟩
            case measure => simp [intOf] <;> omega
          · have d1 : ((c : Int) == 42) = false := by rw [beq_eq_false_iff_ne]; omega
            have E : Hid (r = false) := by show _ = _; rw [← ST.out]; exact stars_no HC.out h42
            have d2 : ((j : Int) == (p.size : Int)) = false := by rw [beq_eq_false_iff_ne]; omega
            clear h42
            go_wp2_with fail
            go_ret
            exact ⟨rb9 E.out.symm, HB.out⟩
        · have dj : decide ((j : Int) < (p.size : Int)) = false := decide_eq_false (by omega)
          have dj' : decide (j < p.size) = false := decide_eq_false (by omega)
          have E : Hid (r = true) := by show _ = _; rw [← ST.out, List.drop_of_length_le (by rw [HLP.out]; exact hjp)]; rfl
          have d2 : ((j : Int) == (p.size : Int)) = true := by rw [beq_iff_eq]; omega
          go_wp2_with fail
          go_ret
          exact ⟨rb9 E.out.symm, HB.out⟩

end Go.Proofs.YtaaikbbgbnbmkaaDoor
