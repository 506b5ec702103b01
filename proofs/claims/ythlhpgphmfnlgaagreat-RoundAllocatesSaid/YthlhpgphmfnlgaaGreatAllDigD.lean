/- What the proofs of this layer need of the layer Dig, in one text. -/
import Derived.Test.YthlhpgphmfnlgaaGreatAllDigC
import Derived.Lib.OthersKept
import Derived.WalkSmall
import Derived.Laws.RangeAny
import Derived.Laws.RangeString
import Derived.Test.YthlhpgphmfnlgaaGreatAllMulC
import Derived.Test.YthlhpgphmfnlgaaGreatAllNatE
set_option linter.unusedVariables false
set_option linter.unusedSimpArgs false

/-
  Contracts of layer 4, the fourth part: Parse.
-/
namespace Go.Proofs.YthlhpgphmfnlgaaGreat
open Go.RowKit

/-- How limbs stand while a text is read into them: q digits are still to come; N is the number of those that came. -/
def PS (q N : Nat) (xs : List Nat) : Prop :=
  (q = 0 ∧ limbs xs ∧ val xs = N) ∨ ∃ (j t y : Nat) (hi : List Nat), q = 9 * j + t ∧ 1 ≤ t ∧ t ≤ 9 ∧ xs = List.replicate j 0 ++ y :: hi ∧ limbs hi ∧ y < 10 ^ (9 - t) ∧ N = y + 10 ^ (9 - t) * val hi
theorem PS.start {q k : Nat} (hq : 0 < q) (hk : k = (q + 8) / 9) : PS q 0 (List.replicate k 0) := by
  refine .inr ⟨(q - 1) / 9, q - 9 * ((q - 1) / 9), 0, [], by omega, by omega, by omega, ?_, limbs_nil, Nat.pow_pos (by omega), by simp [val]⟩
  rw [show k = (q - 1) / 9 + 1 by omega, List.replicate_succ']
theorem PS.fin {N : Nat} {xs : List Nat} (h : PS 0 N xs) : limbs xs ∧ val xs = N := by
  rcases h with ⟨_, h1, h2⟩ | ⟨j, t, y, hi, h1, h2, _⟩
  · exact ⟨h1, h2⟩
  · omega
theorem PS.gd_lt {q N : Nat} {xs : List Nat} (h : PS (q + 1) N xs) : q / 9 < xs.length ∧ gd xs (q / 9) < 100000000 := by
  rcases h with ⟨h1, _⟩ | ⟨j, t, y, hi, h1, h2, h3, rfl, h5, h6, h7⟩
  · omega
  · obtain rfl : j = q / 9 := by omega
    refine ⟨by simp, ?_⟩
    rw [gd_append, List.length_replicate, if_neg (by omega), Nat.sub_self, gd_cons_zero]
    have : 10 ^ (9 - t) ≤ 10 ^ 8 := Nat.pow_le_pow_right (by omega) (by omega)
    omega
theorem PS.step {q N d : Nat} {xs : List Nat} (h : PS (q + 1) N xs) (hd : d ≤ 9) : PS q (10 * N + d) (xs.set (q / 9) (gd xs (q / 9) * 10 + d)) := by
  rcases h with ⟨h1, _⟩ | ⟨j, t, y, hi, h1, h2, h3, rfl, h5, h6, h7⟩
  · omega
  · obtain rfl : j = q / 9 := by omega
    have hg : gd (List.replicate (q / 9) 0 ++ y :: hi) (q / 9) = y := by rw [gd_append, List.length_replicate, if_neg (by omega), Nat.sub_self, gd_cons_zero]
    have hs : (List.replicate (q / 9) 0 ++ y :: hi).set (q / 9) (y * 10 + d) = List.replicate (q / 9) 0 ++ (y * 10 + d) :: hi := by
      rw [List.set_append_right _ _ (by simp)]; simp
    rw [hg, hs]
    rcases Nat.lt_or_ge 1 t with ht | ht
    · refine .inr ⟨q / 9, t - 1, y * 10 + d, hi, by omega, by omega, by omega, rfl, h5, ?_, ?_⟩
      · rw [show 9 - (t - 1) = 9 - t + 1 by omega, Nat.pow_succ]; omega
      · rw [show 9 - (t - 1) = 9 - t + 1 by omega, Nat.pow_succ, h7]
        generalize 10 ^ (9 - t) = P
        generalize val hi = v
        grind
    · obtain rfl : t = 1 := by omega
      have hy : y < 100000000 := h6
      have hv : 10 * N + d = val ((y * 10 + d) :: hi) := by
        rw [val, h7]
        show 10 * (y + 100000000 * val hi) + d = _
        omega
      have hl : limbs ((y * 10 + d) :: hi) := limbs_cons.2 ⟨by omega, h5⟩
      rcases Nat.eq_zero_or_pos (q / 9) with h0 | h0
      · refine .inl ⟨by omega, ?_, ?_⟩
        · rw [h0]; exact hl
        · rw [h0, hv]; rfl
      · refine .inr ⟨q / 9 - 1, 9, 0, (y * 10 + d) :: hi, by omega, by omega, by omega, ?_, hl, by simp, by rw [hv]; simp⟩
        rw [show q / 9 = q / 9 - 1 + 1 by omega, List.replicate_succ']
        simp

/-- The bytes of a text. -/
def codes (s : ByteArray) : List Nat := s.data.toList.map UInt8.toNat
theorem codes_len (s : ByteArray) : (codes s).length = s.size := by
  show (s.data.toList.map _).length = s.data.size
  rw [List.length_map, Array.length_toList]
theorem codes_get (s : ByteArray) (i : Nat) (h : i < s.size) : gd (codes s) i = (s[i]'h).toNat := by
  have h' : i < s.data.toList.length := by rw [Array.length_toList]; exact h
  unfold gd codes
  rw [List.getD_eq_getElem?_getD, List.getElem?_map, List.getElem?_eq_getElem h']
  rfl
theorem codes_take (s : ByteArray) (i : Nat) (h : i < s.size) : (codes s).take (i + 1) = (codes s).take i ++ [(s[i]'h).toNat] := by
  rw [← codes_get s i h, List.take_add_one, gd_of_lt (by rw [codes_len]; exact h)]; rfl
theorem str_codes (s : ByteArray) : str (codes s) = s := by
  unfold str codes
  rw [List.map_map]
  have e : (UInt8.ofNat ∘ UInt8.toNat) = id := by funext x; simp
  rw [e, List.map_id]
theorem codes_str {l : List Nat} (h : ∀ c ∈ l, c < 256) : codes (str l) = l := by
  unfold str codes
  rw [List.map_map]
  show List.map _ l = l
  conv => rhs; rw [← List.map_id l]
  refine List.map_congr_left fun c hc => ?_
  simp
  have := h c hc
  omega
theorem not_digs {s : ByteArray} {i : Nat} (h : i < s.size) (hc : (s[i]'h).toNat < 48 ∨ 57 < (s[i]'h).toNat) : ¬ digs (codes s) := fun hd => by
  have := hd (s[i]'h).toNat (by
    unfold codes
    refine List.mem_map.2 ⟨s[i]'h, ?_, rfl⟩
    exact Array.mem_toList_iff.2 (Array.getElem_mem (xs := s.data) h))
  omega

/-- What comes back of a text that is read. -/
def RetParse (W : World) (l : List Nat) (e : Ending) (w' : World) : Prop :=
  (digs l ∧ RetSub W (pv l) e w') ∨ (¬ digs l ∧ RetVal W (.tuple #[.slice none 0 0, .int .i64 3]) e w')

theorem str_ne {s : ByteArray} (h : 0 < s.size) : (s.toList == (ByteArray.mk #[]).toList) = false ∧ (s.toList == []) = false ∧ s.toList.isEmpty = false ∧ ¬ s.toList = [] := by
  have hl : s.toList.length = s.size := by rw [ByteArray.toList_eq, Array.length_toList]; rfl
  have hne : s.toList ≠ [] := fun h => by rw [h] at hl; simp at hl; omega
  have he : (ByteArray.mk #[]).toList = [] := by rw [ByteArray.toList_eq]
  rw [he]
  refine ⟨by simpa using hne, by simpa using hne, by simpa using hne, hne⟩

/-- The next sign of a text: a byte below 128, or a sign of 128 at least. -/
theorem next_sign (s : ByteArray) (pos : Nat) (h : pos < s.size) : (Utf8.decode s pos).1 ≤ 2147483647 ∧ (((s[pos]'h).toNat < 128 ∧ (Utf8.decode s pos).1 = (s[pos]'h).toNat ∧ (Utf8.decode s pos).2 = 1) ∨ (128 ≤ (s[pos]'h).toNat ∧ 128 ≤ (Utf8.decode s pos).1)) := by
  refine ⟨decode_le s pos, ?_⟩
  rcases Nat.lt_or_ge (s[pos]'h).toNat 128 with h1 | h1
  · rw [decode_ascii s pos h h1]; exact .inl ⟨h1, rfl, rfl⟩
  · exact .inr ⟨h1, (decode_high s pos h h1).1⟩

end Go.Proofs.YthlhpgphmfnlgaaGreat

/-
  Layer 4: the contracts as the laws ask for them; the law's own examples (awake) answer true, whatever the memory.
-/
namespace Go.Proofs.YthlhpgphmfnlgaaGreat
open Go.RowKit

set_option maxRecDepth 100000 in
theorem drop_is {A : Option Addr} {n c a k m : Nat} {v : Int} {w : World} (h : Num w w.heap.size A n c a) (hn : n ≤ 1000000) (hk : k ≤ 9223372036854775807) (hv : v = k) (hm : a / 10 ^ k = m) :
    Calls Tryz.prog 78 #[.slice A n c, .int .i64 v] w (RetSub w m) := by
  subst hv; subst hm; exact drop_any A n c a k w h hn hk
set_option maxRecDepth 100000 in
theorem count_is {A : Option Addr} {n c a B m : Nat} {w : World} (h : Num w B A n c a) (hn : n ≤ 1000000) (hm : nd a = m) :
    Calls Tryz.prog 116 #[.slice A n c] w fun e w' => e = .returned (.int .i64 (m : Nat)) ∧ w = w' := by
  subst hm; exact count_any A n c a B w h hn
set_option maxRecDepth 100000 in
theorem noughts_is {A : Option Addr} {n c a B m : Nat} {w : World} (h : Num w B A n c a) (hn : n ≤ 1000000) (hm : tz a = m) :
    Calls Tryz.prog 77 #[.slice A n c] w fun e w' => e = .returned (.int .i64 (m : Nat)) ∧ w = w' := by
  subst hm; exact noughts_any A n c a B w h hn
theorem num_none (w : World) (B : Nat) : Num w B none 0 0 0 := by rw [Num, dg_zero]; exact Lim.nil

def t1 : Nat := 1000000005
def t2 : Nat := 1000000
theorem dg_t1 : dg t1 = [5, 1] := by unfold t1; rw [dg_pos (by omega), dg_pos (by omega), dg_zero]
theorem ten_codes : codes ⟨#[49, 48, 48, 48, 48, 48, 48, 48, 48, 53]⟩ = [49, 48, 48, 48, 48, 48, 48, 48, 48, 53] := rfl
theorem abc_codes : codes ⟨#[49, 50, 97]⟩ = [49, 50, 97] := rfl
theorem text_t1 : str (txt t1) = ⟨#[49, 48, 48, 48, 48, 48, 48, 48, 48, 53]⟩ := by rw [txt_pad 9 (a := t1) (by decide) (by decide)]; rfl
theorem text_t2 : str (txt t2) = ⟨#[49, 48, 48, 48, 48, 48, 48]⟩ := by rw [txt_pad 6 (a := t2) (by decide) (by decide)]; rfl
theorem text_0 : str (txt 0) = ⟨#[48]⟩ := by rw [txt_zero]; rfl
theorem nd_t1 : nd t1 = 10 := by unfold nd; rw [txt_pad 9 (a := t1) (by decide) (by decide), pad_len]
theorem nd_0 : nd 0 = 1 := nd_lt (by omega)
theorem tz_t2 : tz t2 = 6 := by
  have := tz_mul (a := 1) (by omega) 6
  rw [tz_no (by decide : 1 % 10 ≠ 0)] at this
  exact this

end Go.Proofs.YthlhpgphmfnlgaaGreat

/-
  The walk of the law DigitsTens.
-/
namespace Go.Proofs.YthlhpgphmfnlgaaGreat
open Go.RowKit

theorem Env.one5 {w : World} {A1 : Option Addr} {n1 c1 a : Nat} (h1 : Num w w.heap.size A1 n1 c1 a) : Hid (Env w w [(A1, n1, c1, a)]) := by
  refine ⟨Below.refl _ _, fun q hq => ?_⟩
  rcases List.mem_cons.1 hq with rfl | hq
  · exact h1
  · cases hq
theorem pow10_len {N k : Nat} (h : N < 9 * k) : (dg (10 ^ N)).length ≤ k := by
  refine dg_len_le ?_
  rw [pow9]
  exact Nat.pow_lt_pow_right (by omega) h
theorem len_pos_of {a n : Nat} (h : (dg a).length = n) (ha : 0 < a) : 0 < n := by
  rw [← h, dg_pos ha]; simp
theorem shift_len {a n N : Nat} (h : (dg a).length = n) (hN : N ≤ 255) : (dg (a * 10 ^ N)).length ≤ n + 30 := by
  have h1 := dg_len_mul a (10 ^ N)
  have h2 := pow10_len (N := N) (k := 30) (by omega)
  omega
theorem len_le_of {w : World} {B n c a m : Nat} {A : Option Addr} (h : Num w B A n c a) (ha : (dg a).length ≤ m) : n ≤ m := by rw [← h.len]; exact ha
theorem str_size4 (l : List Nat) : (str l).size = l.length := by
  show (l.map UInt8.ofNat).toArray.size = _
  simp

end Go.Proofs.YthlhpgphmfnlgaaGreat
