/-
  Rows of numbers in memory; the contract of Sum.
-/
import Derived.Test.YtbknkoicejkfmaaMulJ
import Derived.Deep.RegionWith
namespace Go.Proofs.Ytbknkoicejkfmaa
open Go.RowKit

/-- A number's place: address, length, capacity, limbs. -/
abbrev Spot := Option Addr × Nat × Nat × List Nat
def Spot.val (q : Spot) : Value := .slice q.1 q.2.1 q.2.2.1
def spots (qs : List Spot) : List Value := qs.map Spot.val
/-- The k-th place. -/
def sp (qs : List Spot) (k : Nat) : Spot := qs.getD k (none, 0, 0, [])
theorem sp_of_lt {qs : List Spot} {k : Nat} (h : k < qs.length) : qs[k]? = some (sp qs k) := by
  unfold sp; rw [List.getD_eq_getElem?_getD, List.getElem?_eq_getElem h]; rfl
theorem sp_mem {qs : List Spot} {k : Nat} (h : k < qs.length) : sp qs k ∈ qs := List.mem_of_getElem? (sp_of_lt h)

/-- The slice at A of n numbers' slices and capacity c reads as the places qs. -/
structure Lims (w : World) (B : Nat) (A : Option Addr) (n c : Nat) (qs : List Spot) : Prop where
  len : qs.length = n
  cap : n ≤ c
  room : c ≤ maxLen
  row : Row w B A (spots qs)
  elems : ∀ q ∈ qs, Lim w B q.1 q.2.1 q.2.2.1 q.2.2.2

theorem Lims.below {w w' : World} {B n c : Nat} {A : Option Addr} {qs : List Spot} (h : Lims w B A n c qs) (hb : Below B w w') : Lims w' B A n c qs :=
  ⟨h.len, h.cap, h.room, h.row.keep fun _ hp => hb.cell hp, fun q hq => (h.elems q hq).below hb⟩
theorem Lims.more {w : World} {B B' n c : Nat} {A : Option Addr} {qs : List Spot} (h : Lims w B A n c qs) (hB : B ≤ B') : Lims w B' A n c qs :=
  ⟨h.len, h.cap, h.room, h.row.more hB, fun q hq => (h.elems q hq).more hB⟩
theorem Lims.at_ {w : World} {B n c k : Nat} {A : Option Addr} {qs : List Spot} (h : Lims w B A n c qs) (hk : k < n) :
    ∃ b o, A = some ⟨b, o, none⟩ ∧ b < B ∧ w.cell? ⟨b, o + k, none⟩ = some (.slice (sp qs k).1 (sp qs k).2.1 (sp qs k).2.2.1) := by
  rcases h.row with h0 | ⟨b, o, rfl, hb, hc⟩
  · have := congrArg List.length h0
    simp [spots] at this
    have h1 := h.len
    rw [this] at h1
    simp at h1; omega
  · refine ⟨b, o, rfl, hb, hc k _ ?_⟩
    unfold spots
    rw [List.getElem?_map, sp_of_lt (by rw [h.len]; exact hk)]; rfl
theorem Lims.nil (w : World) (B : Nat) : Lims w B none 0 0 [] := ⟨rfl, Nat.le_refl _, by simp [maxLen], .inl rfl, fun q hq => by cases hq⟩

/-- The number at the k-th place. -/
def vq (qs : List Spot) (k : Nat) : Nat := val (sp qs k).2.2.2
/-- The products of the first k of both, together. -/
def dot (qs ps : List Spot) : Nat → Nat
  | 0 => 0
  | k + 1 => dot qs ps k + vq qs k * vq ps k
theorem dot_lt {qs ps : List Spot} {P : Nat} : ∀ {k : Nat}, (∀ j, j < k → vq qs j * vq ps j < P) → dot qs ps k ≤ k * P := by
  intro k
  induction k with
  | zero => intro _; simp [dot]
  | succ k ih =>
    intro h
    rw [dot, Nat.succ_mul]
    have := ih (fun j hj => h j (by omega))
    have := h k (by omega)
    omega
theorem dot_fit {qs ps : List Spot} {L k : Nat} (hk : k ≤ 1000000) (h : ∀ j, j < k → vq qs j * vq ps j < 1000000000 ^ L) : dot qs ps k < 1000000000 ^ (L + 2) := by
  have h1 := dot_lt h
  have h2 : k * 1000000000 ^ L ≤ 1000000 * 1000000000 ^ L := Nat.mul_le_mul_right _ hk
  have h3 : 0 < 1000000000 ^ L := Nat.pow_pos (by omega)
  rw [Nat.pow_add]
  generalize 1000000000 ^ L = P at *
  have e : P * 1000000000 ^ 2 = P * 1000000000000000000 := rfl
  rw [e]
  omega

/-- Each of them is a right number. -/
def Rights (qs : List Spot) (K : Nat) : Prop := ∀ q ∈ qs, rightB q.2.2.2 = true ∧ q.2.1 ≤ K
theorem Lims.num {w : World} {B n c k K : Nat} {A : Option Addr} {qs : List Spot} (h : Lims w B A n c qs) (hr : Rights qs K) (hk : k < n) : Num w B (sp qs k).1 (sp qs k).2.1 (sp qs k).2.2.1 (vq qs k) ∧ (sp qs k).2.1 ≤ K := by
  have hm := sp_mem (qs := qs) (k := k) (by rw [h.len]; exact hk)
  exact ⟨by rw [Num, vq, dg_of_right (hr _ hm).1]; exact h.elems _ hm, (hr _ hm).2⟩
theorem Num.lt_pow {w : World} {B n c a : Nat} {A : Option Addr} (h : Num w B A n c a) : a < 1000000000 ^ n := pow_of_len h.len (Nat.le_refl _)

theorem fast_new {A A' : Option Addr} {n c n' c' a b m : Nat} {w : World} (h : Num w w.heap.size A n c a) (h' : Num w w.heap.size A' n' c' b) (hn : n ≤ 1000000) (hn' : n' ≤ 1000000) (hm : a * b = m) :
    Calls Try.prog 28 #[.slice A n c, .slice A' n' c'] w (RetNew w m) := fast_to 1000000 (Nat.le_refl _) A A' n c n' c' a b m w h h' hn hn' hm

theorem Own.below {w w' : World} {g : Nat} {zs : List Nat} (h : Own w g zs) (hb : Below w.heap.size w w') : Own w' g zs := by
  unfold Own at h ⊢
  rw [hb.block g (Own.lt h)]; exact h

theorem Lim.drew {w : World} {B n c : Nat} {A : Option Addr} {xs : List Nat} (h : Lim w B A n c xs) : Lim w.drew B A n c xs := h.below (Below.refl _ _).drew

/-- What was made of its own is laid on top of the room. -/
theorem sum_add {w w3 : World} {g m A3n c3 p V : Nat} {A3 : Option Addr} {zs : List Nat} (ho : Own w g zs) (hl : limbs zs) (hm : zs.length = m) (h3 : Num w3 w3.heap.size A3 A3n c3 p) (hf3 : ∀ ad, A3 = some ad → w.drew.heap.size ≤ ad.block) (hb3 : Below w.drew.heap.size w.drew w3)
    (hV : val zs + 1000000000 ^ 0 * p = V) (hfit : V < 1000000000 ^ m) (hmm : m ≤ 1000000000) :
    Calls Try.prog 42 #[.slice (some ⟨g, 0, none⟩) m m, .slice A3 A3n c3] w3 (RetRoom w3 g m V) := by
  have hlt : g < w.heap.size := Own.lt ho
  have ho3 : Own w3 g zs := by
    unfold Own at ho ⊢
    rw [hb3.block g hlt]; exact ho
  refine madd_is 0 m ho3 hl hm (by omega) hmm h3 (fun _ ad hA => ?_) (Nat.le_refl _) hV hfit
  have h1 : w.heap.size ≤ ad.block := hf3 ad hA
  omega
theorem num_max {a b : Int} (h : a = b) : Value.int .i64 a = .int .i64 b := by rw [h]
theorem max_step {L x y i : Nat} {qs ps : List Spot} (h : ∀ j, j < i → (sp qs j).2.1 + (sp ps j).2.1 ≤ L) (hL : L ≤ x) (hy : (sp qs i).2.1 + (sp ps i).2.1 ≤ x) (hxy : y = i + 1) : ∀ j, j < y → (sp qs j).2.1 + (sp ps j).2.1 ≤ x := by
  intro j hj
  rcases Nat.lt_or_ge j i with h1 | h1
  · exact Nat.le_trans (h j h1) hL
  · obtain rfl : j = i := by omega
    exact hy

set_option maxHeartbeats 2000000 in
set_option maxRecDepth 100000 in
theorem sum_any (A A' : Option Addr) (n c n' c' K m : Nat) (qs ps : List Spot) (w : World) (h : Lims w w.heap.size A n c qs) (h' : Lims w w.heap.size A' n' c' ps) (hq : Rights qs K) (hp : Rights ps K) (hn : n ≤ 1000000) (hn' : n' ≤ 1000000) (hK : K ≤ 400000)
    (hm : m = min n n') :
    Calls Try.prog 29 #[.slice A n c, .slice A' n' c'] w (RetNum w (dot qs ps m)) := by
  obtain ⟨i0, hi, hz0, hz1, hz2⟩ := info_parts info_limb
  have hmA := h.room
  have hcA := h.cap
  have hmB := h'.room
  have hcB := h'.cap
  unfold maxLen at hmA hmB
  have H := Lib.hid h
  have H' := Lib.hid h'
  have HQ := Lib.hid hq
  have HP := Lib.hid hp
  have hmn : m ≤ n := by omega
  have hmn' : m ≤ n' := by omega
  clear h h' hq hp
  have HM := Lib.hid hm
  clear hm
  · go_enter Try.func29, Try.ntmps29
    go_wp2
    rw [show min (n : Int) (n' : Int) = (m : Int) from by have := HM.out; omega]
    go_loopw [6, 16] (fun lv iv wr => ∃ (i L : Nat), i ≤ m ∧ iv = .int .i64 i ∧ lv = .int .i64 L ∧ L ≤ 800000 ∧ (∀ j, j < i → (sp qs j).2.1 + (sp ps j).2.1 ≤ L) ∧ Below w.heap.size w wr) (fun _ iv _ => m - (intOf iv).toNat)
    case atStart => exact ⟨0, 0, Nat.zero_le _, rfl, rfl, by omega, fun j hj => absurd hj (by omega), Below.refl _ _⟩
    case round =>
      obtain ⟨i, L, hi1, rfl, rfl, hL, hall, hb⟩ := hrel
      have HALL := Lib.hid hall
      have HB := Lib.hid hb
      clear hall hb
      rcases Nat.lt_or_ge i m with him | him
      · have LQ := Lib.hid (H.out.below HB.out)
        have LP := Lib.hid (H'.out.below HB.out)
        obtain ⟨b1, o1, rfl, _, hc1⟩ := LQ.out.at_ (show i < n by omega)
        obtain ⟨b2, o2, rfl, _, hc2⟩ := LP.out.at_ (show i < n' by omega)
        have kq := (LQ.out.num HQ.out (show i < n by omega)).2
        have kp := (LP.out.num HP.out (show i < n' by omega)).2
        go_wp2
        go_region
        go_wp2
        go_roundw
        case rel => exact ⟨i + 1, max L ((sp qs i).2.1 + (sp ps i).2.1), by omega, by go_num, num_max (by omega), by omega, max_step HALL.out (by omega) (by omega) rfl, HB.out.drew⟩
        case measure => simp [intOf]; omega
      · obtain rfl : i = m := by omega
        have HQP : Hid (∀ j, j < i → vq qs j * vq ps j < 1000000000 ^ L) := fun j hj =>
          Nat.lt_of_lt_of_le (mul_lt_pow (Num.lt_pow (H.out.num HQ.out (show j < n by omega)).1) (Num.lt_pow (H'.out.num HP.out (show j < n' by omega)).1)) (Nat.pow_le_pow_right (by omega) (HALL.out j hj))
        have HSZ := HB.out.size
        clear HALL
        obtain ⟨w1, hw1⟩ : ∃ w1 : World, w1 = wr := ⟨_, rfl⟩
        subst hw1
        go_wp2_with (at_make; go_must (refine wpList_make_full _ rfl _ _ 23 rfl w1.heap.size 24 i0 (.int .u32 0) 1 Try.underlying23 hi hz0 hz1 _ _ _ _ (L + 2) rfl rfl (by omega) (by omega) (by rw [hz2]; omega) (by unfold maxLen; omega) (Nat.le_refl _) ?_; intro w2 hown1 hgr1; have O2 : Hid (Own w2 w1.heap.size (List.replicate (L + 2) 0)) := Own.of_made hown1; have HB2 : Hid (Below w1.heap.size w1 w2) := (Below.refl _ _).grown hgr1 (Nat.le_refl _) (fun k hk => by cases hk); clear hown1 hgr1))
        go_loopw [37] (fun kv wr => ∃ (k : Nat) (zs : List Nat), k ≤ i ∧ kv = .int .i64 k ∧ zs.length = L + 2 ∧ limbs zs ∧ val zs = dot qs ps k ∧ Own wr w1.heap.size zs ∧ Below w1.heap.size w1 wr) (fun kv _ => i - (intOf kv).toNat)
        case atStart => exact ⟨0, List.replicate (L + 2) 0, Nat.zero_le _, rfl, by simp, zeros_limbs _, val_zeros _, O2.out, HB2.out⟩
        case round =>
          obtain ⟨k, zs, hk1, rfl, hlen, hlim, hval, hown, hb⟩ := hrel
          clear O2 HB2
          have OW := Lib.hid hown
          have HL := Lib.hid hlim
          have HV := Lib.hid hval
          have HB3 := Lib.hid hb
          have LN := Lib.hid hlen
          clear hown hlim hval hb hlen
          rcases Nat.lt_or_ge k i with hki | hki
          · have HC := Lib.hid (HB.out.trans (HB3.out.mono HSZ))
            have LQ := Lib.hid (H.out.below HC.out)
            have LP := Lib.hid (H'.out.below HC.out)
            obtain ⟨b1, o1, rfl, _, hc1⟩ := LQ.out.at_ (show k < n by omega)
            obtain ⟨b2, o2, rfl, _, hc2⟩ := LP.out.at_ (show k < n' by omega)
            have NQ := Lib.hid ((LQ.out.num HQ.out (show k < n by omega)).1.more HC.out.size)
            have NP := Lib.hid ((LP.out.num HP.out (show k < n' by omega)).1.more HC.out.size)
            have kq := (LQ.out.num HQ.out (show k < n by omega)).2
            have kp := (LP.out.num HP.out (show k < n' by omega)).2
            have NQd := Lib.hid (Lim.drew NQ.out)
            have NPd := Lib.hid (Lim.drew NP.out)
            have HE : Hid (val zs + 1000000000 ^ 0 * (vq qs k * vq ps k) = dot qs ps (k + 1)) := by show _ = _; rw [HV.out, dot, Nat.pow_zero, Nat.one_mul]
            have HF : Hid (dot qs ps (k + 1) < 1000000000 ^ (L + 2)) := dot_fit (by omega) (fun j hj => HQP.out j (by omega))
            go_wp2
            go_region_with (first | (go_at_call 28; refine (fast_new (w := wr.drew) (m := vq qs k * vq ps k) NQd.out NPd.out (by omega) (by omega) rfl).mono ?_; rintro e w3 ⟨A3, n3, c3, rfl, h3, hf3, hb3⟩; have ADD := Lib.hid (sum_add OW.out HL.out LN.out h3 hf3 hb3 HE.out HF.out (by omega)); have HB4 : Hid (Below w1.heap.size w1 w3) := HB3.out.drew.trans (hb3.mono HB3.out.size); clear h3 hf3 hb3) | (go_at_call 42; refine ADD.out.mono ?_; rintro e w4 ⟨ys, rfl, hown4, hlen4, hlim4, hval4, hkp4⟩; have OW4 := Lib.hid hown4; have HL4 := Lib.hid hlim4; have HV4 := Lib.hid hval4; have LN4 := Lib.hid hlen4; have HB5 : Hid (Below w1.heap.size w1 w4) := HB4.out.trans (hkp4.below (Nat.le_refl _)); clear hown4 hlen4 hlim4 hval4 hkp4))
            all_goals
              go_wp2
              go_roundw
              case rel => exact ⟨k + 1, ys, by omega, by go_num, LN4.out, HL4.out, HV4.out, OW4.out, HB5.out⟩
              case measure => simp [intOf]; omega
          · obtain rfl : k = i := by omega
            have LZ := own_lim_is OW.out HL.out LN.out (by omega)
            have HLZ := Lib.hid LZ
            clear LZ
            go_wp2_with (go_at_call 34; refine (mcut_any _ _ _ _ _ _ HLZ.out HL.out).mono ?_; rintro e w' ⟨⟨A2, n2, c2, rfl, hn2, hA2, h2⟩, rfl⟩; have H2 := Lib.hid h2; clear h2 hA2)
            go_ret
            exact ⟨_, _, _, rfl, by rw [← HV.out]; exact H2.out, HB.out.trans (HB3.out.mono HSZ)⟩

end Go.Proofs.Ytbknkoicejkfmaa
