/-
  Contract of layer 3: Digits.
-/
import Derived.Test.YtenelfclalnfhaaDivO
namespace Go.Proofs.Ytenelfclalnfhaa
open Go.RowKit

/-- What Digits hands back: digits ds to the base b that make a, the last one not 0. -/
def RetDigits (W : World) (b a : Nat) (e : Ending) (w' : World) : Prop :=
  ∃ (A : Option Addr) (n c : Nat) (ds : List Nat), e = .returned (.tuple #[.slice A n c, .int .i64 0]) ∧ Lim w' w'.heap.size A n c ds ∧ n ≤ 100000 ∧ (∀ d ∈ ds, d < b) ∧ numB b ds = a ∧ (n = 0 ∨ gd ds (n - 1) ≠ 0) ∧ Below W.heap.size W w'

theorem digits_bad (A : Option Addr) (n c : Nat) (b : Nat) (w : World) (hb : b < 2) :
    Calls Try.prog 30 #[.slice A n c, .int .u32 b] w (RetVal w (.tuple #[.slice none 0 0, .int .i64 1])) := by
  go_enter Try.func30, Try.ntmps30
  go_wp2
  go_ret2
  exact ⟨rfl, Below.refl _ _⟩

theorem power_more {p b : Nat} (hb : 2 ≤ b) (h : p ≤ 4294967295 / b) : p * b ≤ 4294967295 := Nat.le_trans (Nat.mul_le_mul_right _ h) (Nat.div_mul_le_self _ _)

/-- Two slices lie in blocks of their own. -/
def Apart (A A' : Option Addr) (n : Nat) : Prop := 0 < n → ∀ ad ad', A = some ad → A' = some ad' → ad.block ≠ ad'.block
theorem Lim.grown {w w' : World} {B n c : Nat} {A : Option Addr} {xs : List Nat} {row : Option Nat} (h : Lim w B A n c xs) (hB : B ≤ w.heap.size) (hg : w.grownBy w' row) (hap : 0 < n → ∀ ad, A = some ad → some ad.block ≠ row) : Lim w' w'.heap.size A n c xs := by
  refine ⟨h.len, h.cap, h.room, h.fit, ?_, h.addr⟩
  rcases Nat.eq_zero_or_pos n with h0 | h0
  · subst h0; left; rw [List.eq_nil_of_length_eq_zero h.len]; rfl
  · obtain ⟨b, o, he, hb, _⟩ := h.at_ h0
    subst he
    rcases h.row with h1 | ⟨b1, o1, he, hb1, hc⟩
    · exact .inl h1
    · injection he with he
      injection he with he1 he2
      subst he1; subst he2
      have hs := hg.size
      refine .inr ⟨b, o, rfl, by omega, fun j u hu => ?_⟩
      rw [hg.cell_far ⟨b, o + j, none⟩ (by show b < _; omega) (show some b ≠ row from hap h0 ⟨b, o, none⟩ rfl)]
      exact hc j u hu
theorem one_news (w : World) (x : Nat) (v : Int) (hv : v = x) (hx : x < 4294967296) (t : TypeId) : ∀ j u, (vals [x])[j]? = some u → (w.alloc (.cells #[.int .u32 v] t)).cell? ((⟨w.heap.size, 0, none⟩ : Addr).add j) = some u := by
  obtain ⟨ad, he, hc⟩ := lim_src (Lim.one w x v hv hx t) (by simp [vals])
  injection he with he
  subst he
  exact hc
theorem digits_end {w W : World} {A : Option Addr} {m c b a t : Nat} {ds : List Nat} (h : Lim w w.heap.size A m c ds) (ht : t ≤ m) (hl : ds.length = m) (hd : ∀ d ∈ ds, d < b) (hv : numB b ds + b ^ m * 0 = a) (hz : ∀ j, t ≤ j → gd ds j = 0) (he : t = 0 ∨ gd ds (t - 1) ≠ 0) (hm : t ≤ 100000) (hb : Below W.heap.size W w) :
    RetDigits W b a (.returned (.tuple #[.slice A t c, .int .i64 0])) w := by
  refine ⟨A, t, c, ds.take t, rfl, h.take ht, hm, fun d hd' => hd d (List.mem_of_mem_take hd'), ?_, ?_, hb⟩
  · rw [numB_take (by omega) hz]; rw [Nat.mul_zero, Nat.add_zero] at hv; exact hv
  · rcases he with he | he
    · exact .inl he
    · rcases Nat.eq_zero_or_pos t with h0 | h0
      · exact .inl h0
      · right
        unfold gd at he ⊢
        rw [List.getD_eq_getElem?_getD, List.getElem?_take_of_lt (by omega), ← List.getD_eq_getElem?_getD]
        exact he

set_option maxHeartbeats 2000000 in
set_option maxRecDepth 100000 in
theorem digits_any (A : Option Addr) (n c a b : Nat) (w : World) (h : Num w w.heap.size A n c a) (hn : n ≤ 1000) (hb2 : 2 ≤ b) (hb : b < 4294967296) :
    Calls Try.prog 30 #[.slice A n c, .int .u32 b] w (RetDigits w b a) := by
  obtain ⟨i0, hi, hz0, hz1, hz2⟩ := info_parts info_limb
  have HAP := Lib.hid (pow_of_len h.len (Nat.le_refl _))
  have H := Lib.hid h
  obtain ⟨Q, hQ⟩ : ∃ Q, 4294967295 / b = Q := ⟨_, rfl⟩
  have EQ : (4294967295 : Int) / (b : Int) = (Q : Int) := by rw [← hQ, Int.natCast_ediv]; rfl
  have HQ := Lib.hid hQ
  have EQH := Lib.hid EQ
  have hQl : Q ≤ 4294967295 := by rw [← hQ]; exact Nat.div_le_self _ _
  have hdb : decide ((b : Int) < 2) = false := by rw [decide_eq_false_iff_not]; omega
  clear h hQ
  go_enter Try.func30, Try.ntmps30
  go_wp2
  go_loop [6, 7] (fun pv cv => ∃ p k : Nat, pv = .int .u32 p ∧ cv = .int .i64 k ∧ p < 4294967296 ∧ 2 ≤ p ∧ k ≤ 32 ∧ Hid (p = b ^ k)) (fun pv _ => 4294967296 - (intOf pv).toNat)
  case atStart => exact ⟨b, 1, rfl, rfl, hb, hb2, by omega, (Nat.pow_one b).symm⟩
  case round =>
    obtain ⟨p, k, rfl, rfl, hp, hp2, hk, HP⟩ := hrel
    rcases Nat.lt_or_ge Q p with hc | hc
    · go_wp2
      clear EQ hc
      go_loopg [0, 8] a (fun gk av dv wr => ∃ (A1 : Option Addr) (n1 c1 : Nat) (A2 : Option Addr) (m c2 : Nat) (ds : List Nat), av = .slice A1 n1 c1 ∧ dv = .slice A2 m c2 ∧ n1 ≤ 1000 ∧ m ≤ 30 * n + 32 ∧ Num wr wr.heap.size A1 n1 c1 gk ∧ wr.ownsRow w.heap.size 24 1 (.slice A2 m c2) m (vals ds) ∧ (∀ d ∈ ds, d < b) ∧ numB b ds + b ^ m * gk = a ∧ Below w.heap.size w wr)
      case atStart => exact ⟨A, n, c, none, 0, 0, [], rfl, rfl, hn, by omega, H.out, World.ownsRow_nil _ _ _ _, fun d hd => (by cases hd), by simp [numB], Below.refl _ _⟩
      case round =>
        obtain ⟨A1, n1, c1, A2, m, c2, ds, rfl, rfl, hn1, hm, h1, ho, hd, hv, hbl⟩ := hrel
        have H1 := Lib.hid h1
        have L1 := Lib.hid h1.len
        have HO := Lib.hid ho
        have HD := Lib.hid hd
        have HV := Lib.hid hv
        have HB := Lib.hid hbl
        have HLD : Hid (ds.length = m) := by have := ho.1; rw [vals_len, Nat.mul_one] at this; exact this
        clear h1 ho hd hv hbl
        rcases Nat.eq_zero_or_pos gk with h0 | h0
        · subst h0
          obtain rfl : n1 = 0 := L1.out.symm.trans (by rw [dg_zero]; rfl)
          have LD := Lib.hid (Lim.of_own HO.out (fun x hx => by have := HD.out x hx; omega))
          have hroom := LD.out.room
          have hcap := LD.out.cap
          unfold maxLen at hroom
          go_wp2
          go_loop [10] (fun tv => ∃ t : Nat, t ≤ m ∧ tv = .int .i64 t ∧ Hid (∀ j, t ≤ j → gd ds j = 0)) (fun tv => (intOf tv).toNat)
          case atStart => exact ⟨m, Nat.le_refl _, rfl, fun j hj => gd_of_ge (by rw [HLD.out]; exact hj)⟩
          case round =>
            obtain ⟨t, ht, rfl, HT⟩ := hrel
            rcases Nat.eq_zero_or_pos t with ht0 | ht0
            · subst ht0
              go_wp2
              go_ret2
              exact digits_end LD.out (Nat.zero_le _) HLD.out HD.out HV.out HT.out (.inl rfl) (by omega) HB.out
            · obtain ⟨b3, o3, rfl, _, hc3⟩ := LD.out.at_ (show t - 1 < m by omega)
              by_cases hz : gd ds (t - 1) = 0
              · rw [hz] at hc3
                go_wp2
                go_round
                case rel =>
                  refine ⟨t - 1, by omega, by go_num, fun j hj => ?_⟩
                  rcases Nat.lt_or_ge j t with h1 | h1
                  · obtain rfl : j = t - 1 := by omega
                    exact hz
                  · exact HT.out j h1
                case measure => simp [intOf]; omega
              · have hzb : (((gd ds (t - 1) : Nat) : Int) == 0) = false := by simp; omega
                have HZ := Lib.hid hz
                have hgl := LD.out.gd_lt (t - 1)
                clear hz
                go_wp2
                go_ret2
                exact digits_end LD.out ht HLD.out HD.out HV.out HT.out (.inr HZ.out) (by omega) HB.out
        · have hp1 := dg_len_pos L1.out h0
          have hm1 : m ≤ 30 * n := digits_len hb2 HV.out h0 HAP.out
          obtain ⟨y, hy⟩ : ∃ y, gk / p = y := ⟨_, rfl⟩
          obtain ⟨r, hr⟩ : ∃ r, gk % p = r := ⟨_, rfl⟩
          have hrp : r < p := by rw [← hr]; exact Nat.mod_lt _ (by omega)
          have HYR : Hid (p * y + r = gk) := by show _ = _; rw [← hy, ← hr]; exact Nat.div_add_mod _ _
          have hyl : y < gk := by rw [← hy]; exact Nat.div_lt_self h0 (by omega)
          have LY : Hid ((dg y).length ≤ n1) := by show _ ≤ _; rw [← hy]; exact div_len_le L1.out
          have HY := Lib.hid hy
          have HR := Lib.hid hr
          clear hy hr
          go_wp2_with fail
          have DF := dsmall_fresh A1 n1 c1 gk p wr H1.out (by omega) (by omega) hp
          rw [HY.out, HR.out] at DF
          refine DF.mono ?_; rintro e w2 ⟨A3, n3, c3, rfl, h3, hf3, hb3⟩
          have AP3 : Hid (Apart A2 A3 n3) := fun _ ad ad' hA hA' => by
            have h1 := (HO.out.lt ad.block (by rw [hA]; rfl)).2
            have h2 := hf3 ad' hA'
            omega
          have hn3 : n3 ≤ n1 := by rw [← h3.len]; exact LY.out
          have H3 := Lib.hid h3
          have HO3 := Lib.hid (own_below HO.out hb3)
          have HB3 := Lib.hid (HB.out.trans (hb3.mono HB.out.size))
          clear h3 hf3 hb3 DF
          go_wp2_with fail
          obtain ⟨wo, rfl⟩ : ∃ wo : World, wo = w2 := ⟨_, rfl⟩
          go_loopw [8, 9, 34] (fun dv pv tv wr2 => ∃ (t x : Nat) (A4 : Option Addr) (m4 c4 : Nat) (es : List Nat), t ≤ k ∧ tv = .int .i64 t ∧ pv = .int .u32 x ∧ dv = .slice A4 m4 c4 ∧ m4 = m + t ∧ x < 4294967296 ∧ Hid (x < b ^ (k - t)) ∧ wr2.ownsRow w.heap.size 24 1 (.slice A4 m4 c4) m4 (vals es) ∧ (∀ d ∈ es, d < b) ∧ Hid (numB b es + b ^ (m + t) * (x + b ^ (k - t) * y) = a) ∧ Below w.heap.size w wr2 ∧ Num wr2 wr2.heap.size A3 n3 c3 y ∧ Hid (Apart A4 A3 n3)) (fun _ _ tv _ => k - (intOf tv).toNat)
          case atStart =>
            refine ⟨0, r, A2, m, c2, ds, Nat.zero_le _, rfl, rfl, rfl, rfl, by omega, ?_, HO3.out, HD.out, ?_, HB3.out, H3.out, AP3⟩
            · show _ < _; rw [Nat.sub_zero, ← HP.out]; exact hrp
            · show _ = _; rw [Nat.sub_zero, ← HP.out, Nat.add_zero, Nat.add_comm r, HYR.out]; exact HV.out
          case round =>
            obtain ⟨t, x, A4, m4, c4, es, ht, rfl, rfl, rfl, rfl, hx, HX, ho4, hd4, HV4, hb4, h5, AP⟩ := hrel
            have HO4 := Lib.hid ho4
            have HD4 := Lib.hid hd4
            have HB4 := Lib.hid hb4
            have H5 := Lib.hid h5
            have HL4 : Hid (es.length = m + t) := by have := ho4.1; rw [vals_len, Nat.mul_one] at this; exact this
            clear ho4 hd4 hb4 h5
            rcases Nat.lt_or_ge t k with htk | htk
            · obtain ⟨i, hi2⟩ : ∃ i, k - t = i + 1 := ⟨k - t - 1, by omega⟩
              have HX2 := HX.out
              rw [hi2] at HX2
              have DS := HV4.out
              rw [hi2] at DS
              have DS := Lib.hid (digit_step (y' := b ^ i * y) HL4.out DS (by rw [Nat.pow_succ, Nat.mul_comm (b ^ i) b, Nat.mul_assoc]))
              have DL := Lib.hid (digit_lt HX2)
              have eI : k - (t + 1) = i := by omega
              have EI := Lib.hid eI
              have hxd : x / b < 4294967296 := Nat.lt_of_le_of_lt (Nat.div_le_self _ _) hx
              have hxm : x % b < b := Nat.mod_lt _ (by omega)
              have em : ((x : Int) % (b : Int)) = ((x % b : Nat) : Int) := (Int.natCast_emod _ _).symm
              have ed : ((x : Int) / (b : Int)) = ((x / b : Nat) : Int) := (Int.natCast_ediv _ _).symm
              have EM := Lib.hid em
              have ED := Lib.hid ed
              have HXD := Lib.hid hxd
              have HXM := Lib.hid hxm
              clear em ed hi2 HX2 eI hxd hxm
              go_wp2_with (at_builtin; go_must (refine wpList_append_lies _ rfl (.tmp 36) (.tmp 40) 22 rfl w.heap.size 24 i0 (.int .u32 0) 1 4 Try.underlying22 hi hz0 hz1 hz2 rfl (by decide) (.slice A4 (m + t) c4) (m + t) (vals es) rfl (HO4.out.alloc _) ⟨wr.heap.size, 0, none⟩ 1 1 (vals [x % b]) rfl rfl (one_news wr (x % b) _ EM.out (by have := HXM.out; omega) _) (vals_one _) (by decide) (by unfold maxLen; omega) (by omega) (Nat.le_trans HB4.out.size (by simp)) _ rfl ?_; intro g c6 w6 hown hgr hat hlt; rw [← vals_append] at hown))
              go_roundw
              case rel =>
                refine ⟨t + 1, x / b, some ⟨g, 0, none⟩, m + t + 1, c6, es ++ [x % b], by omega, by go_num, ?_, rfl, rfl, HXD.out, ?_, hown, digits_all HD4.out (by omega), ?_, (HB4.out.alloc HB4.out.size _).grown hgr (Nat.le_trans HB4.out.size (by simp)) (fun g hg => (HO4.out.lt g hg).1), ?_, ?_⟩
                · rw [ED.out]; exact congrArg (Value.int IntKind.u32) (by have h := HXD.out; generalize x / b = q at h ⊢; omega)
                · show _ < _; rw [EI.out]; exact DL.out
                · show _ = _; rw [EI.out]; exact DS.out
                · exact (H5.out.below ((Below.refl _ _).alloc (Nat.le_refl _) _)).grown (Nat.le_of_lt (by simp)) hgr (fun hp ad hA => by
                    intro he
                    obtain ⟨g2, hg2⟩ : ∃ g2, A4 = some g2 := by
                      cases A4 with
                      | none => simp [Value.ownBlock] at he
                      | some g2 => exact ⟨g2, rfl⟩
                    rw [hg2] at he
                    exact AP.out hp g2 ad hg2 hA (by simpa [Value.ownBlock] using he.symm))
                · intro hp ad ad' hA hA'
                  injection hA with hA
                  subst hA
                  rcases hat with h1 | h1
                  · obtain ⟨g2, hg2⟩ : ∃ g2, A4 = some g2 := by
                      cases A4 with
                      | none => simp [Value.ownBlock] at h1
                      | some g2 => exact ⟨g2, rfl⟩
                    rw [hg2] at h1
                    have h2 : g2.block = g := by simpa [Value.ownBlock] using h1
                    show g ≠ _
                    rw [← h2]
                    exact AP.out hp g2 ad' hg2 hA'
                  · obtain ⟨b9, o9, he9, hb9, _⟩ := H5.out.at_ hp
                    rw [hA'] at he9
                    injection he9 with he9
                    subst he9
                    show g ≠ b9
                    simp at h1
                    omega
              case measure => simp [intOf]; omega
            · obtain rfl : t = k := by omega
              have hx0 : x = 0 := by have := HX.out; rw [Nat.sub_self, Nat.pow_zero] at this; omega
              have HV5 : Hid (numB b es + b ^ (m + t) * y = a) := by show _ = _; have := HV4.out; rw [hx0, Nat.sub_self, Nat.pow_zero, Nat.one_mul, Nat.zero_add] at this; exact this
              go_wp2
              go_roundg y
              case measure => exact hyl
              case rel => exact ⟨A3, n3, c3, A4, m + t, c4, es, rfl, rfl, by omega, by omega, H5.out, HO4.out, HD4.out, HV5.out, HB4.out⟩
    · have hpb : p * b ≤ 4294967295 := power_more hb2 (by rw [HQ.out]; exact hc)
      have E : Hid ((p : Int) * (b : Int) = ((p * b : Nat) : Int)) := by show _ = _; rw [Int.natCast_mul]
      have hp0 : 0 ≤ (p : Int) * (b : Int) := by rw [E.out]; omega
      have hp1 : (p : Int) * (b : Int) ≤ 4294967295 := by rw [E.out]; omega
      have HM : Hid (p * 2 ≤ p * b) := Nat.mul_le_mul_left _ hb2
      have HPB := Lib.hid hpb
      clear hpb
      go_wp2
      go_round
      case rel =>
        have e1 : p * b = b ^ (k + 1) := by rw [Nat.pow_succ, ← HP.out]
        exact ⟨p * b, k + 1, by rw [E.out], by go_num, by have := HPB.out; omega, by have := HM.out; omega, power_count hb2 (by rw [← e1]; have := HPB.out; omega), e1⟩
      case measure => simp [intOf]; have := HPB.out; have := HM.out; have := E.out; omega

end Go.Proofs.Ytenelfclalnfhaa
