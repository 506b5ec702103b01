/- What the proofs of this layer need of the layer Mul, in one text. -/
import Derived.Test.YtjkandnbjbfeiaaDoorAllNatE
import Derived.Test.YtjkandnbjbfeiaaDoorAllNatD
import Derived.Test.YtjkandnbjbfeiaaDoorAllMulA
set_option linter.unusedVariables false
set_option linter.unusedSimpArgs false

/-
  Contracts of layer 2, the first part: cut, addRow, add: what is written into a room.
-/
namespace Go.Proofs.YtjkandnbjbfeiaaDoor.Num
open Go.RowKit

/-- But for block g the world w' is as w was. -/
structure Kept (g : Nat) (w w' : World) : Prop where
  os : w'.os = w.os
  tape : w'.tape = w.tape
  output : w'.output = w.output
  size : w'.heap.size = w.heap.size
  block : ∀ k, k ≠ g → w'.heap[k]? = w.heap[k]?

theorem Kept.refl (g : Nat) (w : World) : Kept g w w := ⟨rfl, rfl, rfl, rfl, fun _ _ => rfl⟩
theorem Kept.trans {g : Nat} {a b c : World} (h : Kept g a b) (k : Kept g b c) : Kept g a c :=
  ⟨k.os.trans h.os, k.tape.trans h.tape, k.output.trans h.output, k.size.trans h.size, fun i hi => (k.block i hi).trans (h.block i hi)⟩
theorem Kept.drew {g : Nat} {a w : World} (h : Kept g a w) : Kept g a w.drew := ⟨h.os, h.tape, h.output, h.size, h.block⟩
theorem Kept.setCell {g : Nat} {a w : World} (h : Kept g a w) (o : Nat) (u : Value) : Kept g a (w.setCell ⟨g, o, none⟩ u) :=
  h.trans ⟨rfl, rfl, rfl, by simp [World.setCell], fun k hk => Below.heap_setCell _ _ _ _ hk⟩
theorem Kept.below {g B : Nat} {a w : World} (h : Kept g a w) (hB : B ≤ g) : Below B a w := ⟨h.os, h.tape, h.output, Nat.le_of_eq h.size.symm, fun k hk => h.block k (by omega)⟩
theorem Kept.cell {g : Nat} {w w' : World} (h : Kept g w w') {p : Addr} (hp : p.block ≠ g) : w'.cell? p = w.cell? p := World.cell?_of_block (w := w) (h.block p.block hp)

/-- Limbs that lie anywhere but in block g. -/
def Off (g : Nat) (A : Option Addr) : Prop := ∀ ad, A = some ad → ad.block ≠ g
theorem Lim.off {w : World} {B n c g : Nat} {A : Option Addr} {xs : List Nat} (h : Lim w B A n c xs) (hB : B ≤ g) (hn : 0 < n) : Off g A := by
  intro ad hA
  obtain ⟨b, o, he, hb, _⟩ := h.at_ hn
  rw [hA] at he
  injection he with he
  subst he
  show b ≠ g
  omega
theorem Lim.kept {w w' : World} {B n c g : Nat} {A : Option Addr} {xs : List Nat} (h : Lim w B A n c xs) (ho : 0 < n → Off g A) (k : Kept g w w') : Lim w' B A n c xs := by
  refine ⟨h.len, h.cap, h.room, h.fit, ?_, h.addr⟩
  rcases Nat.eq_zero_or_pos n with h0 | h0
  · subst h0; left; rw [List.eq_nil_of_length_eq_zero h.len]; rfl
  replace ho := ho h0
  rcases h.row with h0 | ⟨b, o, rfl, hb, hc⟩
  · exact .inl h0
  · exact .inr ⟨b, o, rfl, hb, fun j u hu => (k.cell (p := ⟨b, o + j, none⟩) (ho ⟨b, o, none⟩ rfl)).trans (hc j u hu)⟩

/-- What cut hands back of limbs at A of which n are left. -/
def cutV (A : Option Addr) (n : Nat) : Value := if n = 0 then .slice none 0 0 else .slice A n n
theorem cutV_lim {A : Option Addr} {n c B : Nat} {xs : List Nat} {w : World} (h : Lim w B A n c xs) (hx : limbs xs) : ∃ A' n' c', cutV A (dg (val xs)).length = .slice A' n' c' ∧ n' ≤ n ∧ (A' = none ∨ A' = A) ∧ Lim w B A' n' c' (dg (val xs)) := by
  have hlen : (dg (val xs)).length ≤ n := by
    have := dg_len_le (val_lt hx)
    rwa [h.len] at this
  unfold cutV
  by_cases h0 : (dg (val xs)).length = 0
  · rw [if_pos h0, List.eq_nil_of_length_eq_zero h0]
    exact ⟨none, 0, 0, rfl, Nat.zero_le _, .inl rfl, Lim.nil⟩
  · rw [if_neg h0]
    have e : dg (val xs) = xs.take (dg (val xs)).length := by
      have hz : ∀ j, (dg (val xs)).length ≤ j → gd xs j = 0 := by
        intro j hj
        have e := val_take_drop xs (dg (val xs)).length (by rw [h.len]; exact hlen)
        have hd : val (xs.drop (dg (val xs)).length) = 0 := by
          rcases Nat.eq_zero_or_pos (val (xs.drop (dg (val xs)).length)) with h1 | h1
          · exact h1
          · have h2 := lt_pow_dg (val xs)
            have h3 : 1000000000 ^ (dg (val xs)).length * 1 ≤ 1000000000 ^ (dg (val xs)).length * val (xs.drop (dg (val xs)).length) := Nat.mul_le_mul_left _ h1
            generalize 1000000000 ^ (dg (val xs)).length = P at *
            omega
        have : ∀ k ys, val ys = 0 → gd ys k = 0 := by
          intro k
          induction k with
          | zero => intro ys hy; have := val_drop ys 0; rw [List.drop_zero] at this; omega
          | succ k ih =>
            intro ys hy
            have := val_drop ys 0
            rw [List.drop_zero, Nat.zero_add] at this
            have := ih (ys.drop 1) (by omega)
            rwa [gd_drop, Nat.add_comm 1 k] at this
        have h4 := this (j - (dg (val xs)).length) _ hd
        rwa [gd_drop, Nat.add_sub_cancel' hj] at h4
      refine dg_cut hx hz (.inr ?_) (by rw [h.len]; exact hlen)
      intro hl
      have e1 := val_take_drop xs ((dg (val xs)).length - 1) (by rw [h.len]; omega)
      have hz2 : val (xs.drop ((dg (val xs)).length - 1)) = 0 := by
        have : ∀ k i, xs.length - i = k → (dg (val xs)).length - 1 ≤ i → val (xs.drop i) = 0 := by
          intro k
          induction k with
          | zero => intro i hk _; rw [List.drop_of_length_le (by omega)]; rfl
          | succ k ih =>
            intro i hk hi
            rw [val_drop, ih (i + 1) (by omega) (by omega)]
            rcases Nat.eq_or_lt_of_le hi with h5 | h5
            · rw [← h5, hl]
            · rw [hz i (by omega)]
        exact this _ _ rfl (Nat.le_refl _)
      rw [hz2, Nat.mul_zero, Nat.add_zero] at e1
      have h6 := val_lt (limbs_take hx ((dg (val xs)).length - 1))
      rw [← e1, List.length_take, h.len, Nat.min_eq_left (by omega)] at h6
      have := dg_len_le h6
      omega
    have ht := h.take hlen
    rw [← e] at ht
    exact ⟨A, _, _, rfl, hlen, .inr rfl, ⟨ht.len, Nat.le_refl _, Nat.le_trans ht.cap ht.room, ht.fit, ht.row, fun hA => by have := ht.addr hA; have := ht.cap; omega⟩⟩

theorem cut_len {xs : List Nat} {n : Nat} (hx : limbs xs) (hz : ∀ j, n ≤ j → gd xs j = 0) (hn : n = 0 ∨ gd xs (n - 1) ≠ 0) (hle : n ≤ xs.length) : (dg (val xs)).length = n := by
  rw [dg_cut hx hz hn hle, List.length_take]; omega

theorem row_step {zs bs : List Nat} {i k l cy T : Nat} (h : val zs + 1000000000 ^ (i + k) * (cy + l * val (bs.drop k)) = T) (hk : i + k < zs.length) :
    val (zs.set (i + k) ((gd zs (i + k) + gd bs k * l + cy) % 1000000000)) + 1000000000 ^ (i + (k + 1)) * ((gd zs (i + k) + gd bs k * l + cy) / 1000000000 + l * val (bs.drop (k + 1))) = T := by
  rw [← Nat.add_assoc i k 1]
  refine acc_step h hk ?_
  rw [val_drop bs k, Nat.mul_add, Nat.mul_comm l (gd bs k), Nat.mul_left_comm l 1000000000]
  omega
theorem row_end {zs bs : List Nat} {i k l cy T : Nat} (h : val zs + 1000000000 ^ (i + k) * (cy + l * val (bs.drop k)) = T) (hk : i + k < zs.length) (hb : bs.length ≤ k) (hz : gd zs (i + k) = 0) :
    val (zs.set (i + k) cy) = T := by
  have := acc_step (v := cy) (R' := 0) h hk (by rw [hz, List.drop_of_length_le hb]; simp [val])
  rw [Nat.mul_zero, Nat.add_zero] at this
  exact this
theorem row_mul_le {y l : Nat} (hy : y < 1000000000) (hl : l < 1000000000) : y * l ≤ 999999998000000001 :=
  Nat.le_trans (Nat.mul_le_mul (show y ≤ 999999999 by omega) (show l ≤ 999999999 by omega)) (by omega)

/-- What a call hands back that writes into the room g: limbs of the number v. -/
def RetRoom (W : World) (g len v : Nat) (e : Ending) (w' : World) : Prop :=
  ∃ zs, e = .returned (.tuple #[]) ∧ Own w' g zs ∧ zs.length = len ∧ limbs zs ∧ val zs = v ∧ Kept g W w'

theorem sum_step {zs xs : List Nat} {o k cy T : Nat} (h : val zs + 1000000000 ^ (o + k) * (cy + val (xs.drop k)) = T) (hk : o + k < zs.length) :
    val (zs.set (o + k) ((gd zs (o + k) + cy + gd xs k) % 1000000000)) + 1000000000 ^ (o + (k + 1)) * ((gd zs (o + k) + cy + gd xs k) / 1000000000 + val (xs.drop (k + 1))) = T := by
  rw [← Nat.add_assoc o k 1]
  refine acc_step h hk ?_
  rw [val_drop xs k]
  omega
theorem sum_end {zs xs : List Nat} {k j T : Nat} (h : val zs + 1000000000 ^ j * (0 + val (xs.drop k)) = T) (hk : xs.length ≤ k) : val zs = T := by
  rw [List.drop_of_length_le hk, val, Nat.add_zero, Nat.mul_zero] at h
  exact h

end Go.Proofs.YtjkandnbjbfeiaaDoor.Num

/-
  Contracts of layer 2, the second part: Mul, Times.
-/
namespace Go.Proofs.YtjkandnbjbfeiaaDoor.Num
open Go.RowKit

/-- What a call hands back that makes limbs in memory of its own. -/
def RetFresh (W : World) (xs : List Nat) (e : Ending) (w' : World) : Prop :=
  ∃ A n c, e = .returned (.slice A n c) ∧ Lim w' w'.heap.size A n c xs ∧ (∀ ad, A = some ad → W.heap.size ≤ ad.block) ∧ Below W.heap.size W w'
abbrev RetNew (W : World) (a : Nat) (e : Ending) (w' : World) : Prop := RetFresh W (dg a) e w'
theorem RetFresh.lim {W : World} {xs : List Nat} {e : Ending} {w' : World} (h : RetFresh W xs e w') : RetLim W xs e w' := by
  obtain ⟨A, n, c, he, hl, _, hb⟩ := h
  exact ⟨A, n, c, he, hl, hb⟩

theorem zeros_limbs (n : Nat) : limbs (List.replicate n 0) := fun x hx => by rw [(List.mem_replicate.1 hx).2]; omega
theorem len_of_u64 {N : Nat} (h : N < 18446744073709551616) : (dg N).length ≤ 3 := dg_len_le (by omega)

end Go.Proofs.YtjkandnbjbfeiaaDoor.Num

/-
  Contracts of layer 2, the third part: halves, Fast, Square.
-/
namespace Go.Proofs.YtjkandnbjbfeiaaDoor.Num
open Go.RowKit

theorem Lim.quiet {w : World} {B n c k : Nat} {A : Option Addr} {xs : List Nat} (h : Lim w B A n c xs) : Lim (w.drewN k) B A n c xs := h.below (below_drewN (Below.refl _ _) k)

theorem val_take_mod (a k : Nat) : val ((dg a).take k) = a % 1000000000 ^ k ∧ val ((dg a).drop k) = a / 1000000000 ^ k := by
  have hp : 0 < 1000000000 ^ k := Nat.pow_pos (by omega)
  have hlt : val ((dg a).take k) < 1000000000 ^ k := by
    refine Nat.lt_of_lt_of_le (val_lt (limbs_take (limbs_dg a) k)) (Nat.pow_le_pow_right (by omega) ?_)
    rw [List.length_take]; omega
  have e : a = val ((dg a).take k) + 1000000000 ^ k * val ((dg a).drop k) := by
    rcases Nat.lt_or_ge (dg a).length k with h | h
    · rw [List.take_of_length_le (by omega), List.drop_of_length_le (by omega), val_dg]; rfl
    · rw [← val_take_drop _ _ h, val_dg]
  generalize 1000000000 ^ k = P at *
  generalize val ((dg a).take k) = x at *
  generalize val ((dg a).drop k) = y at *
  subst e
  constructor
  · rw [Nat.add_mul_mod_self_left, Nat.mod_eq_of_lt hlt]
  · rw [Nat.add_mul_div_left _ _ hp, Nat.div_eq_of_lt hlt, Nat.zero_add]

theorem Lim.rest {w : World} {B n c b o k : Nat} {xs : List Nat} (h : Lim w B (some ⟨b, o, none⟩) n c xs) (hk : k ≤ n) (A : Option Addr) (hA : k < n → A = some ⟨b, o + k, none⟩) (hA' : A = none → c - k = 0) : Lim w B A (n - k) (c - k) (xs.drop k) := by
  refine ⟨by rw [List.length_drop, h.len], by have := h.cap; omega, by have := h.room; omega, fun x hx => h.fit x (List.mem_of_mem_drop hx), ?_, hA'⟩
  rcases Nat.lt_or_ge k n with hlt | hge
  · obtain rfl := hA hlt
    rcases h.row with h0 | ⟨b', o', he, hb, hc⟩
    · left
      have := congrArg List.length h0
      rw [vals_len, h.len] at this
      simp at this; omega
    · injection he with he
      injection he with he1 he2
      subst he1; subst he2
      refine .inr ⟨b, o + k, rfl, hb, fun j u hu => ?_⟩
      rw [Nat.add_assoc]
      refine hc (k + j) u ?_
      rw [vals, List.map_drop, List.getElem?_drop] at hu
      exact hu
  · left
    rw [List.drop_of_length_le (by rw [h.len]; exact hge)]; rfl

/-- What halves hands back. -/
def RetHalves (W : World) (x y : Nat) (e : Ending) (w' : World) : Prop :=
  ∃ A1 n1 c1 A2 n2 c2, e = .returned (.tuple #[.slice A1 n1 c1, .slice A2 n2 c2]) ∧ Num w' w'.heap.size A1 n1 c1 x ∧ Num w' w'.heap.size A2 n2 c2 y ∧ Below W.heap.size W w'

theorem halves_ret {W : World} {x y k n1 n2 : Nat} {V1 V2 : Value} {xs ys : List Nat} {A1 A2 : Option Addr} (hv : val xs = x ∧ val ys = y)
    (h1 : ∃ A' n' c', V1 = .slice A' n' c' ∧ n' ≤ n1 ∧ (A' = none ∨ A' = A1) ∧ Lim W W.heap.size A' n' c' (dg (val xs))) (h2 : ∃ A' n' c', V2 = .slice A' n' c' ∧ n' ≤ n2 ∧ (A' = none ∨ A' = A2) ∧ Lim W W.heap.size A' n' c' (dg (val ys))) :
    RetHalves W x y (.returned (.tuple #[V1, V2])) (W.drewN k) := by
  obtain ⟨rfl, rfl⟩ := hv
  obtain ⟨A1, n1, c1, rfl, _, _, l1⟩ := h1
  obtain ⟨A2, n2, c2, rfl, _, _, l2⟩ := h2
  exact ⟨A1, n1, c1, A2, n2, c2, rfl, l1.quiet, l2.quiet, below_drewN (Below.refl _ _) k⟩

end Go.Proofs.YtjkandnbjbfeiaaDoor.Num

/-
  Contracts of layer 2, the fourth part: Fast, Square.
-/
namespace Go.Proofs.YtjkandnbjbfeiaaDoor.Num
open Go.RowKit

/-- The halves of two numbers, by name. -/
theorem fast_facts {a b n m h : Nat} (hn : (dg a).length = n) (hm : (dg b).length = m) (h1 : n ≤ 2 * h) (h2 : m ≤ 2 * h) (h3 : 2 * h ≤ n + m) :
    ∃ la ha lb hb, a % 1000000000 ^ h = la ∧ a / 1000000000 ^ h = ha ∧ b % 1000000000 ^ h = lb ∧ b / 1000000000 ^ h = hb ∧
      (dg la).length ≤ h ∧ (dg ha).length ≤ n - h ∧ (dg lb).length ≤ h ∧ (dg hb).length ≤ m - h ∧ (dg (la + ha)).length ≤ h + 1 ∧ (dg (lb + hb)).length ≤ h + 1 ∧
      (dg (la * lb)).length ≤ 2 * h ∧ (dg (ha * hb)).length ≤ n + m - 2 * h ∧ la * lb ≤ (la + ha) * (lb + hb) ∧ ha * hb ≤ (la + ha) * (lb + hb) - la * lb ∧
      (la * lb + 1000000000 ^ (2 * h) * (ha * hb)) + 1000000000 ^ h * ((la + ha) * (lb + hb) - la * lb - ha * hb) = a * b :=
  ⟨_, _, _, _, rfl, rfl, rfl, rfl, mod_len a h, div_len hn, mod_len b h, div_len hm, half_len hn h1, half_len hm h2, low_len, high_len hn hm h3, mid_le1 a b h, mid_le2 a b h, kara a b h⟩

theorem Env.two {w : World} {A1 A2 : Option Addr} {n1 n2 c1 c2 a b : Nat} (h1 : Num w w.heap.size A1 n1 c1 a) (h2 : Num w w.heap.size A2 n2 c2 b) : Hid (Env w w [(A1, n1, c1, a), (A2, n2, c2, b)]) := by
  refine ⟨Below.refl _ _, fun q hq => ?_⟩
  rcases List.mem_cons.1 hq with rfl | hq
  · exact h1
  · rcases List.mem_cons.1 hq with rfl | hq
    · exact h2
    · cases hq
theorem vals_splice (L cs : List Nat) (off : Nat) : splice (vals L) off (vals cs) = vals (splice L off cs) := by
  simp [splice, vals, List.map_append, List.map_take, List.map_drop]
theorem own_spliced {w : World} {g off : Nat} {L cs : List Nat} (h : Hid (w.heap[g]? = some (.cells (splice (vals L) off (vals cs)).toArray 88 (0, 0)))) : Hid (Own w g (splice L off cs)) := by
  have := h.out
  rw [vals_splice] at this
  exact this
theorem copy_ok {w : World} {B n c k off : Nat} {A : Option Addr} {xs L : List Nat} (h : Lim w B A n c xs) (hk : n ≤ k) (hl : off + k ≤ L.length) : (vals xs).length = Nat.min n k ∧ off + (vals xs).length ≤ (vals L).length := by
  rw [vals_len, vals_len, h.len]
  exact ⟨(Nat.min_eq_left hk).symm, by omega⟩

theorem own_lim_is {w : World} {g m : Nat} {zs : List Nat} (h : Own w g zs) (hz : limbs zs) (hl : zs.length = m) (hm : m ≤ 1000000000000) : Lim w w.heap.size (some ⟨g, 0, none⟩) m m zs := by
  subst hl; exact h.lim hz hm

/-- Two numbers are laid into a room of noughts: the first one at its head, the second one at place p. -/
theorem two_laid {N p x y : Nat} (h1 : (dg x).length ≤ p) (h2 : p + (dg y).length ≤ N) :
    (splice (splice (List.replicate N 0) 0 (dg x)) p (dg y)).length = N ∧ limbs (splice (splice (List.replicate N 0) 0 (dg x)) p (dg y)) ∧ val (splice (splice (List.replicate N 0) 0 (dg x)) p (dg y)) = x + 1000000000 ^ p * y := by
  have e1 : 0 + (dg x).length ≤ (List.replicate N 0).length := by simp; omega
  have e2 : p + (dg y).length ≤ (splice (List.replicate N 0) 0 (dg x)).length := by
    rw [splice, len_splice e1]; simp; omega
  refine ⟨?_, ?_, ?_⟩
  · rw [splice, len_splice e2, splice, len_splice e1]; simp
  · exact limbs_splice (limbs_splice (zeros_limbs _) (limbs_dg x)) (limbs_dg y)
  · rw [splice, val_splice e2, splice, val_splice e1, val_zeros, val_dg, val_dg]
    · simp
    · intro j _; exact gd_zeros _ _
    · intro j hj; exact gd_splice e1 (fun j _ => gd_zeros _ _) j (by omega)

end Go.Proofs.YtjkandnbjbfeiaaDoor.Num
