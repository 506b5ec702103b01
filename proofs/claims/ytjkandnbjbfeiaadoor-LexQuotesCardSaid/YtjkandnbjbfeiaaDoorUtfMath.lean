/-
  Mathematics of layer 9: bytes as lists of numbers; a sign's bytes and its size; the first byte at which no sign begins; how many signs; the first signs.
-/
import Derived.Test.YtjkandnbjbfeiaaDoorProg
set_option linter.unusedVariables false
set_option linter.unusedSimpArgs false
namespace Go.Proofs.YtjkandnbjbfeiaaDoor

/-- A text's bytes, and the text of these bytes. -/
def bs9 (s : ByteArray) : List Nat := s.data.toList.map UInt8.toNat
def st9 (l : List Nat) : ByteArray := ⟨(l.map UInt8.ofNat).toArray⟩
/-- The numbers that are signs. -/
def Sg (x : Nat) : Prop := x ≤ 1114111 ∧ (x < 55296 ∨ 57343 < x)
instance (x : Nat) : Decidable (Sg x) := by unfold Sg; infer_instance
/-- How many bytes a sign has. -/
def lng (x : Nat) : Nat := if x < 128 then 1 else if x < 2048 then 2 else if x < 65536 then 3 else 4
/-- How many bytes a sign has that begins so. -/
def tld (a : Nat) : Nat := if a < 192 then 1 else if a < 224 then 2 else if a < 240 then 3 else 4
/-- What the first byte has beside the sign's bits. -/
def mk9 (n : Nat) : Nat := if n = 1 then 0 else if n = 2 then 192 else if n = 3 then 224 else 240
/-- A byte that follows. -/
def cn9 (b : Nat) : Prop := 128 ≤ b ∧ b < 192
instance (b : Nat) : Decidable (cn9 b) := by unfold cn9; infer_instance
/-- x and the bits of k bytes more. -/
def go9 : Nat → List Nat → Nat → Option Nat
  | x, _, 0 => some x
  | _, [], _ + 1 => none
  | x, b :: t, k + 1 => if cn9 b then go9 (x * 64 + (b - 128)) t k else none
/-- How many bytes the sign has that begins the text; 0: none does. -/
def fin9 (n : Nat) : Option Nat → Nat
  | none => 0
  | some x => if Sg x ∧ lng x = n then n else 0
def szl : List Nat → Nat
  | [] => 0
  | a :: t => if t.length + 1 < tld a then 0 else fin9 (tld a) (go9 (a - mk9 (tld a)) t (tld a - 1))
theorem szl_cons (a : Nat) (t : List Nat) : szl (a :: t) = if t.length + 1 < tld a then 0 else fin9 (tld a) (go9 (a - mk9 (tld a)) t (tld a - 1)) := rfl
def stp (l : List Nat) : Nat := max (szl l) 1
/-- A sign's bytes. -/
def enc (x : Nat) : List Nat :=
  if x < 128 then [x]
  else if x < 2048 then [192 + x / 64, 128 + x % 64]
  else if x < 65536 then [224 + x / 4096, 128 + x / 64 % 64, 128 + x % 64]
  else [240 + x / 262144, 128 + x / 4096 % 64, 128 + x / 64 % 64, 128 + x % 64]

theorem bs9_len (s : ByteArray) : (bs9 s).length = s.size := by unfold bs9; rw [List.length_map]; rfl
theorem bs9_lt (s : ByteArray) : ∀ c ∈ bs9 s, c < 256 := by
  intro c hc
  obtain ⟨x, _, rfl⟩ := List.mem_map.1 hc
  exact UInt8.toNat_lt x
theorem st9_bs9 (s : ByteArray) : st9 (bs9 s) = s := by
  unfold st9 bs9
  rw [List.map_map, show (UInt8.ofNat ∘ UInt8.toNat) = id from funext fun x => UInt8.ofNat_toNat (x := x), List.map_id]
theorem bs9_st9 {l : List Nat} (h : ∀ c ∈ l, c < 256) : bs9 (st9 l) = l := by
  unfold st9 bs9
  show ((l.map UInt8.ofNat).toArray.toList).map UInt8.toNat = l
  rw [List.toList_toArray, List.map_map]
  conv => rhs; rw [← List.map_id l]
  refine List.map_congr_left fun c hc => ?_
  have := h c hc
  show (UInt8.ofNat c).toNat = c
  rw [UInt8.toNat_ofNat']; omega
theorem bs9_inj {s t : ByteArray} (h : bs9 s = bs9 t) : s = t := by rw [← st9_bs9 s, h, st9_bs9]
theorem bs9_append (s t : ByteArray) : bs9 (s ++ t) = bs9 s ++ bs9 t := by
  unfold bs9
  rw [ByteArray.data_append, Array.toList_append, List.map_append]
theorem bs9_extract (s : ByteArray) (a b : Nat) : bs9 (s.extract a b) = ((bs9 s).drop a).take (b - a) := by
  unfold bs9
  rw [ByteArray.data_extract, Array.toList_extract, List.extract_eq_take_drop, List.map_take, List.map_drop]
theorem bs9_drop (s : ByteArray) (a : Nat) : bs9 (s.extract a s.size) = (bs9 s).drop a := by
  rw [bs9_extract]
  exact List.take_of_length_le (by rw [List.length_drop, bs9_len]; exact Nat.le_refl _)
theorem bs9_take (s : ByteArray) (b : Nat) : bs9 (s.extract 0 b) = (bs9 s).take b := by
  rw [bs9_extract]; rfl
theorem bs9_get (s : ByteArray) (i : Nat) (h : i < s.size) : (bs9 s).drop i = (s[i]'h).toNat :: (bs9 s).drop (i + 1) := by
  have hl : i < (bs9 s).length := by rw [bs9_len]; exact h
  rw [List.drop_eq_getElem_cons hl]
  congr 1
  have hl' : i < (s.data.toList.map UInt8.toNat).length := hl
  show (s.data.toList.map UInt8.toNat)[i]'hl' = _
  exact (List.getElem_map _).trans rfl

theorem tld_pos (a : Nat) : 1 ≤ tld a ∧ tld a ≤ 4 := by unfold tld; (repeat' split) <;> omega
theorem lng_pos (a : Nat) : 1 ≤ lng a ∧ lng a ≤ 4 := by unfold lng; (repeat' split) <;> omega
theorem mk9_le (a : Nat) : mk9 (tld a) ≤ a := by unfold mk9 tld; (repeat' split) <;> omega
theorem go9_app (k : Nat) : ∀ (x : Nat) (t u : List Nat), k ≤ t.length → go9 x (t ++ u) k = go9 x t k := by
  induction k with
  | zero => intro x t u _; simp [go9]
  | succ k ih =>
    intro x t u h
    match t, h with
    | b :: t, h =>
      rw [List.cons_append, go9, go9, ih _ t u (by simpa using h)]
theorem go9_stop (k : Nat) : ∀ (x : Nat) (t u : List Nat), t.length < k → go9 x (t ++ 32 :: u) k = none := by
  induction k with
  | zero => intro x t u h; exact absurd h (Nat.not_lt_zero _)
  | succ k ih =>
    intro x t u h
    match t, h with
    | [], _ => rw [List.nil_append, go9, if_neg (by unfold cn9; omega)]
    | b :: t, h =>
      rw [List.cons_append, go9, ih _ t u (by simpa using h)]
      split <;> rfl
theorem go9_bd (k : Nat) : ∀ {x y : Nat} {t : List Nat}, go9 x t k = some y → x * 64 ^ k ≤ y ∧ y < (x + 1) * 64 ^ k := by
  induction k with
  | zero => intro x y t h; rw [go9] at h; cases h; omega
  | succ k ih =>
    intro x y t h
    match t, h with
    | b :: t, h =>
      rw [go9] at h
      split at h
      · rename_i hc
        obtain ⟨h1, h2⟩ := ih h
        unfold cn9 at hc
        have p : 64 ^ (k + 1) = 64 * 64 ^ k := by rw [Nat.pow_succ, Nat.mul_comm]
        rw [p, ← Nat.mul_assoc, ← Nat.mul_assoc]
        exact ⟨Nat.le_trans (Nat.mul_le_mul_right _ (by omega)) h1, Nat.lt_of_lt_of_le h2 (Nat.mul_le_mul_right _ (by omega))⟩
      · cases h
theorem fin9_le (n : Nat) (o : Option Nat) : fin9 n o = 0 ∨ fin9 n o = n := by
  cases o with
  | none => exact .inl rfl
  | some x =>
    show (if Sg x ∧ lng x = n then n else 0) = 0 ∨ (if Sg x ∧ lng x = n then n else 0) = n
    split
    · exact .inr rfl
    · exact .inl rfl
theorem szl_nil : szl [] = 0 := rfl
theorem szl_or (a : Nat) (t : List Nat) : szl (a :: t) = 0 ∨ (szl (a :: t) = tld a ∧ tld a ≤ t.length + 1) := by
  rw [szl_cons]
  split
  · exact .inl rfl
  · rcases fin9_le (tld a) (go9 (a - mk9 (tld a)) t (tld a - 1)) with h | h
    · exact .inl h
    · exact .inr ⟨h, by omega⟩
theorem szl_le (l : List Nat) : szl l ≤ l.length := by
  match l with
  | [] => exact Nat.le_refl _
  | a :: t =>
    rcases szl_or a t with h | ⟨h, h2⟩
    · rw [h]; exact Nat.zero_le _
    · rw [h, List.length_cons]; exact h2
theorem szl_le4 (l : List Nat) : szl l ≤ 4 := by
  match l with
  | [] => exact Nat.zero_le _
  | a :: t =>
    have := tld_pos a
    rcases szl_or a t with h | ⟨h, h2⟩ <;> omega
theorem szl_app (a : Nat) (t u : List Nat) (h : tld a ≤ t.length + 1) : szl (a :: t ++ u) = szl (a :: t) := by
  have := tld_pos a
  rw [List.cons_append, szl_cons, szl_cons]
  rw [if_neg (by rw [List.length_append]; omega), if_neg (by omega), go9_app _ _ _ _ (by omega)]
theorem szl_ext {l : List Nat} (u : List Nat) (h : szl l ≠ 0) : szl (l ++ u) = szl l := by
  match l, h with
  | a :: t, h =>
    rcases szl_or a t with h1 | ⟨_, h2⟩
    · exact absurd h1 h
    · exact szl_app a t u h2
theorem szl_take {l : List Nat} {m : Nat} (h : szl l ≠ 0) (hm : szl l ≤ m) : szl (l.take m) = szl l := by
  match l, h with
  | a :: t, h =>
    rcases szl_or a t with h1 | ⟨h1, h2⟩
    · exact absurd h1 h
    · have hp := tld_pos a
      obtain ⟨m, rfl⟩ : ∃ k, m = k + 1 := ⟨m - 1, by omega⟩
      have e : a :: t = a :: t.take m ++ t.drop m := by rw [List.cons_append, List.take_append_drop]
      rw [List.take_succ_cons]
      conv => rhs; rw [e]
      rw [szl_app]
      rw [List.length_take]; omega
theorem szl_short (a : Nat) (t : List Nat) (h : t.length + 1 < tld a) : szl (a :: t) = 0 := by rw [szl_cons, if_pos h]
theorem szl_blank (l : List Nat) : szl (32 :: l) = 1 := by
  rw [szl_cons, if_neg (by have : tld 32 = 1 := rfl; omega)]
  show fin9 1 (go9 32 l 0) = 1
  rw [go9]; rfl
theorem szl_pad {l : List Nat} (k : Nat) (h : l ≠ []) : szl (l ++ List.replicate k 32) = szl l := by
  match l, h with
  | a :: t, _ =>
    by_cases hl : tld a ≤ t.length + 1
    · exact szl_app a t _ hl
    · rw [szl_short a t (by omega)]
      match k with
      | 0 => rw [List.replicate_zero, List.append_nil]; exact szl_short a t (by omega)
      | k + 1 =>
        rw [List.replicate_succ, List.cons_append]
        rw [szl_cons]
        split
        · rfl
        · rw [go9_stop _ _ _ _ (by omega)]; rfl
theorem stp_pos (l : List Nat) : 1 ≤ stp l := by unfold stp; omega
theorem stp_le {l : List Nat} (h : l ≠ []) : stp l ≤ l.length := by
  have := szl_le l
  have := List.length_pos_iff.2 h
  unfold stp; omega

/-- The place of the first byte at which no sign begins. -/
def badl (l : List Nat) : Option Nat := if h : l = [] then none else if h2 : szl l = 0 then some 0 else (badl (l.drop (szl l))).map (· + szl l)
termination_by l.length
decreasing_by
  have := List.length_pos_iff.2 h
  rw [List.length_drop]; omega
/-- How many signs, and other bytes. -/
def cntl (l : List Nat) : Nat := if h : l = [] then 0 else cntl (l.drop (stp l)) + 1
termination_by l.length
decreasing_by
  have := List.length_pos_iff.2 h
  have := stp_pos l
  rw [List.length_drop]; omega
/-- How many bytes the first n signs, and other bytes, have. -/
def cutl : Nat → List Nat → Nat
  | 0, _ => 0
  | n + 1, l => if l = [] then 0 else stp l + cutl n (l.drop (stp l))
theorem badl_nil : badl [] = none := by rw [badl, dif_pos rfl]
theorem badl_zero {l : List Nat} (h : l ≠ []) (h2 : szl l = 0) : badl l = some 0 := by rw [badl, dif_neg h, dif_pos h2]
theorem badl_step {l : List Nat} (h2 : szl l ≠ 0) : badl l = (badl (l.drop (szl l))).map (· + szl l) := by
  rw [badl, dif_neg (fun e => h2 (by rw [e]; rfl)), dif_neg h2]
theorem cntl_nil : cntl [] = 0 := by rw [cntl, dif_pos rfl]
theorem cntl_step {l : List Nat} (h : l ≠ []) : cntl l = cntl (l.drop (stp l)) + 1 := by rw [cntl, dif_neg h]
theorem cntl_le : ∀ (n : Nat) (l : List Nat), l.length ≤ n → cntl l ≤ l.length := by
  intro n
  induction n with
  | zero => intro l h; rw [List.eq_nil_of_length_eq_zero (Nat.le_zero.1 h), cntl_nil]; exact Nat.zero_le _
  | succ n ih =>
    intro l h
    by_cases h0 : l = []
    · rw [h0, cntl_nil]; exact Nat.zero_le _
    · have h1 := stp_pos l
      have h2 := stp_le h0
      have := ih (l.drop (stp l)) (by rw [List.length_drop]; omega)
      rw [cntl_step h0]
      rw [List.length_drop] at this
      omega
theorem cntl_len (l : List Nat) : cntl l ≤ l.length := cntl_le _ l (Nat.le_refl _)
theorem cutl_le (n : Nat) : ∀ l : List Nat, cutl n l ≤ l.length := by
  induction n with
  | zero => intro l; exact Nat.zero_le _
  | succ n ih =>
    intro l
    rw [cutl]
    split
    · exact Nat.zero_le _
    · rename_i h
      have := ih (l.drop (stp l))
      have := stp_le h
      rw [List.length_drop] at *
      omega
theorem bad_some (n : Nat) : ∀ {l : List Nat} {m : Nat}, l.length ≤ n → badl l = some m → m < l.length ∧ badl (l.take m) = none := by
  induction n with
  | zero => intro l m h hb; rw [List.eq_nil_of_length_eq_zero (Nat.le_zero.1 h), badl_nil] at hb; cases hb
  | succ n ih =>
    intro l m h hb
    by_cases h0 : l = []
    · rw [h0, badl_nil] at hb; cases hb
    · have hp := List.length_pos_iff.2 h0
      by_cases h1 : szl l = 0
      · rw [badl_zero h0 h1] at hb
        cases hb
        exact ⟨hp, by rw [List.take_zero, badl_nil]⟩
      · rw [badl_step h1] at hb
        have hle := szl_le l
        cases hd : badl (l.drop (szl l)) with
        | none => rw [hd] at hb; cases hb
        | some j =>
          rw [hd] at hb
          obtain rfl : j + szl l = m := Option.some.inj hb
          obtain ⟨g1, g2⟩ := ih (l := l.drop (szl l)) (by rw [List.length_drop]; omega) hd
          rw [List.length_drop] at g1
          refine ⟨by omega, ?_⟩
          have ht := szl_take (m := j + szl l) h1 (by omega)
          rw [badl_step (by rw [ht]; exact h1), ht, List.drop_take, show j + szl l - szl l = j by omega, g2]
          rfl
theorem bad_none (n : Nat) : ∀ {l : List Nat} (u : List Nat), l.length ≤ n → badl l = none → badl (l ++ u) = (badl u).map (· + l.length) ∧ cntl (l ++ u) = cntl l + cntl u := by
  induction n with
  | zero =>
    intro l u h _
    rw [List.eq_nil_of_length_eq_zero (Nat.le_zero.1 h), cntl_nil]
    exact ⟨by rw [List.nil_append]; cases badl u <;> rfl, by rw [List.nil_append]; omega⟩
  | succ n ih =>
    intro l u h hb
    by_cases h0 : l = []
    · rw [h0, cntl_nil]
      exact ⟨by rw [List.nil_append]; cases badl u <;> rfl, by rw [List.nil_append]; omega⟩
    · have hp := List.length_pos_iff.2 h0
      by_cases h1 : szl l = 0
      · rw [badl_zero h0 h1] at hb; cases hb
      · rw [badl_step h1] at hb
        have hle := szl_le l
        have hd : badl (l.drop (szl l)) = none := by
          cases e : badl (l.drop (szl l)) with
          | none => rfl
          | some j => rw [e] at hb; cases hb
        obtain ⟨g1, g2⟩ := ih (l := l.drop (szl l)) u (by rw [List.length_drop]; omega) hd
        have ht := szl_ext u h1
        have hs : stp (l ++ u) = stp l := by unfold stp; rw [ht]
        have hs' : stp l = szl l := by unfold stp; omega
        have hda : (l ++ u).drop (szl l) = l.drop (szl l) ++ u := List.drop_append_of_le_length hle
        constructor
        · rw [badl_step (by rw [ht]; exact h1), ht, hda, g1, List.length_drop]
          cases badl u with
          | none => rfl
          | some j => show some (j + (l.length - szl l) + szl l) = some (j + l.length); congr 1; omega
        · rw [cntl_step (l := l ++ u) (by simp [h0]), hs, hs', hda, g2, cntl_step h0, hs']; omega
theorem cnt_blanks (k : Nat) (l : List Nat) : cntl (List.replicate k 32 ++ l) = k + cntl l := by
  induction k with
  | zero => rw [List.replicate_zero, List.nil_append]; omega
  | succ k ih =>
    rw [List.replicate_succ, List.cons_append, cntl_step (by simp), show stp (32 :: (List.replicate k 32 ++ l)) = 1 by unfold stp; rw [szl_blank]; rfl]
    rw [List.drop_succ_cons, List.drop_zero, ih]; omega
theorem cnt_pad (k n : Nat) : ∀ {l : List Nat}, l.length ≤ n → cntl (l ++ List.replicate k 32) = cntl l + k := by
  induction n with
  | zero =>
    intro l h
    have := cnt_blanks k []
    rw [List.append_nil, cntl_nil] at this
    rw [List.eq_nil_of_length_eq_zero (Nat.le_zero.1 h), cntl_nil, List.nil_append, this]; omega
  | succ n ih =>
    intro l h
    by_cases h0 : l = []
    · have := cnt_blanks k []
      rw [List.append_nil, cntl_nil] at this
      rw [h0, cntl_nil, List.nil_append, this]; omega
    · have hs : stp (l ++ List.replicate k 32) = stp l := by unfold stp; rw [szl_pad k h0]
      have h1 := stp_pos l
      have h2 := stp_le h0
      rw [cntl_step (l := l ++ List.replicate k 32) (by simp [h0]), hs, List.drop_append_of_le_length h2, ih (by rw [List.length_drop]; omega), cntl_step h0]; omega
theorem cnt_cut (n : Nat) : ∀ {l : List Nat}, badl l = none → cntl (l.take (cutl n l)) = min n (cntl l) := by
  induction n with
  | zero => intro l _; rw [cutl, List.take_zero, cntl_nil]; omega
  | succ n ih =>
    intro l hb
    by_cases h0 : l = []
    · rw [h0, cutl, if_pos rfl, List.take_zero, cntl_nil]; omega
    · by_cases h1 : szl l = 0
      · rw [badl_zero h0 h1] at hb; cases hb
      · rw [badl_step h1] at hb
        have hle := szl_le l
        have hd : badl (l.drop (szl l)) = none := by
          cases e : badl (l.drop (szl l)) with
          | none => rfl
          | some j => rw [e] at hb; cases hb
        have hs' : stp l = szl l := by unfold stp; omega
        have ht := szl_take (m := szl l + cutl n (l.drop (szl l))) h1 (by omega)
        have hs : stp (l.take (szl l + cutl n (l.drop (szl l)))) = szl l := by unfold stp; rw [ht]; omega
        have hne : l.take (szl l + cutl n (l.drop (szl l))) ≠ [] := fun e => by rw [e] at ht; exact h1 ht.symm
        rw [cutl, if_neg h0, hs', cntl_step hne, hs, List.drop_take, show szl l + cutl n (l.drop (szl l)) - szl l = cutl n (l.drop (szl l)) by omega, ih hd, cntl_step h0, hs']
        omega

/-- The sign that begins the text, by its first byte. -/
def dec9 : List Nat → Option Nat
  | [] => none
  | a :: t => go9 (a - mk9 (tld a)) t (tld a - 1)
theorem enc_len (x : Nat) : (enc x).length = lng x := by unfold enc lng; (repeat' split) <;> rfl
theorem enc_lt {x : Nat} (h : Sg x) : ∀ c ∈ enc x, c < 256 := by
  have h1 := h.1
  unfold enc
  (repeat' split) <;> (intro c hc; simp only [List.mem_cons, List.not_mem_nil, or_false] at hc; omega)
theorem enc_head {x : Nat} (h : Sg x) : ∃ a t, enc x = a :: t ∧ tld a = lng x ∧ t.length + 1 = lng x ∧ ∀ u, go9 (a - mk9 (tld a)) (t ++ u) (tld a - 1) = some x := by
  have h1 := h.1
  unfold enc lng
  by_cases c1 : x < 128
  · have e : tld x = 1 := by unfold tld; rw [if_pos (by omega)]
    refine ⟨x, [], by rw [if_pos c1], by rw [if_pos c1, e], by rw [if_pos c1]; rfl, fun u => ?_⟩
    rw [e]; show go9 (x - 0) u 0 = _; rw [go9]; rfl
  · by_cases c2 : x < 2048
    · have e : tld (192 + x / 64) = 2 := by unfold tld; rw [if_neg (by omega), if_pos (by omega)]
      refine ⟨_, _, by rw [if_neg c1, if_pos c2], by rw [if_neg c1, if_pos c2, e], by rw [if_neg c1, if_pos c2]; rfl, fun u => ?_⟩
      rw [e]; show go9 (192 + x / 64 - 192) ((128 + x % 64) :: u) 1 = _
      rw [go9, if_pos (by unfold cn9; omega), go9]; exact congrArg some (by omega)
    · by_cases c3 : x < 65536
      · have e : tld (224 + x / 4096) = 3 := by unfold tld; rw [if_neg (by omega), if_neg (by omega), if_pos (by omega)]
        refine ⟨_, _, by rw [if_neg c1, if_neg c2, if_pos c3], by rw [if_neg c1, if_neg c2, if_pos c3, e], by rw [if_neg c1, if_neg c2, if_pos c3]; rfl, fun u => ?_⟩
        rw [e]; show go9 (224 + x / 4096 - 224) ((128 + x / 64 % 64) :: (128 + x % 64) :: u) 2 = _
        rw [go9, if_pos (by unfold cn9; omega), go9, if_pos (by unfold cn9; omega), go9]; exact congrArg some (by omega)
      · have e : tld (240 + x / 262144) = 4 := by unfold tld; rw [if_neg (by omega), if_neg (by omega), if_neg (by omega)]
        refine ⟨_, _, by rw [if_neg c1, if_neg c2, if_neg c3], by rw [if_neg c1, if_neg c2, if_neg c3, e], by rw [if_neg c1, if_neg c2, if_neg c3]; rfl, fun u => ?_⟩
        rw [e]; show go9 (240 + x / 262144 - 240) ((128 + x / 4096 % 64) :: (128 + x / 64 % 64) :: (128 + x % 64) :: u) 3 = _
        rw [go9, if_pos (by unfold cn9; omega), go9, if_pos (by unfold cn9; omega), go9, if_pos (by unfold cn9; omega), go9]; exact congrArg some (by omega)
theorem enc_size {x : Nat} (h : Sg x) (u : List Nat) : szl (enc x ++ u) = lng x := by
  obtain ⟨a, t, e, h1, h2, h3⟩ := enc_head h
  rw [e, List.cons_append, szl_cons, if_neg (by rw [List.length_append]; omega), h3, fin9, if_pos ⟨h, h1.symm⟩, h1]
theorem enc_ahead {x : Nat} (h : Sg x) {i : Nat} (hi : i < lng x) : szl ((enc x).take i) = 0 := by
  obtain ⟨a, t, e, h1, h2, _⟩ := enc_head h
  match i, hi with
  | 0, _ => rfl
  | i + 1, hi =>
    rw [e, List.take_succ_cons]
    exact szl_short _ _ (by rw [List.length_take]; omega)
theorem enc_dec {x : Nat} (h : Sg x) : dec9 (enc x) = some x := by
  obtain ⟨a, t, e, _, _, h3⟩ := enc_head h
  have := h3 []
  rw [List.append_nil] at this
  rw [e]; exact this
theorem enc_inj {x y : Nat} (h : Sg x) (h' : Sg y) (e : enc x = enc y) : x = y := by
  have a := enc_dec h
  rw [e, enc_dec h'] at a
  exact (Option.some.inj a).symm
theorem enc_ne (x : Nat) : enc x ≠ [] := fun e => by
  have h1 := enc_len x
  have h2 := lng_pos x
  rw [e] at h1; simp at h1; omega
theorem enc_right {x : Nat} (h : Sg x) : badl (enc x) = none ∧ cntl (enc x) = 1 := by
  have hs := enc_size h []
  have hp := lng_pos x
  rw [List.append_nil] at hs
  have hd : (enc x).drop (lng x) = [] := List.drop_of_length_le (by rw [enc_len]; exact Nat.le_refl _)
  constructor
  · rw [badl_step (by omega), hs, hd, badl_nil]; rfl
  · rw [cntl_step (enc_ne x), show stp (enc x) = lng x by unfold stp; rw [hs]; omega, hd, cntl_nil]
theorem enc_two {x y : Nat} (h : Sg x) (h' : Sg y) : badl (enc x ++ enc y) = none ∧ cntl (enc x ++ enc y) = 2 := by
  obtain ⟨h1, h2⟩ := enc_right h
  obtain ⟨h3, h4⟩ := enc_right h'
  obtain ⟨g1, g2⟩ := bad_none _ (enc y) (Nat.le_refl _) h1
  rw [h3] at g1
  exact ⟨g1, by rw [g2, h2, h4]⟩

end Go.Proofs.YtjkandnbjbfeiaaDoor
