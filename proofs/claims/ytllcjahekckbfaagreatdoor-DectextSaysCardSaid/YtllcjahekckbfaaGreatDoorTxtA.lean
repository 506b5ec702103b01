/-
  Layer 7, contracts, the first part: what the library's Cut, Contains, ReplaceAll, Repeat answer, as lists of bytes; signed, Scale, ungrouped.
-/
import Derived.Test.YtllcjahekckbfaaGreatDoorTxtMath
import Derived.Test.YtllcjahekckbfaaGreatDoorAllDecD
import Derived.Test.YtllcjahekckbfaaGreatDoorShelf
import Derived.Lib.SplitLaws
import Derived.Lib.ReplaceLaws
import Derived.WalkMore
set_option linter.unusedVariables false
set_option linter.unusedSimpArgs false
namespace Go.Proofs.YtllcjahekckbfaaGreatDoor
open Go.RowKit

theorem cell_on7 {w w' : World} {a : Addr} {v : Value} (h : w.cell? a = some v) (hb : Below w.heap.size w w') : w'.cell? a = some v := by
  have hlt : a.block < w.heap.size := by
    rcases Nat.lt_or_ge a.block w.heap.size with h' | h'
    · exact h'
    · unfold World.cell? at h
      rw [Array.getElem?_eq_none h'] at h
      cases h
  rw [hb.cell hlt]; exact h
/-- The library's own variable holds some number. -/
def MaxLen (w : World) : Prop := ∃ m, w.cell? ⟨0, 0, none⟩ = some (.int .i64 m)
theorem MaxLen.on {w w' : World} (h : MaxLen w) (hb : Below w.heap.size w w') : MaxLen w' := by
  obtain ⟨m, hm⟩ := h
  exact ⟨m, cell_on7 hm hb⟩

theorem mk_str (l : List UInt8) : (⟨l.toArray⟩ : ByteArray) = str (l.map UInt8.toNat) := by
  rw [← str_codes ⟨l.toArray⟩]
  rfl
theorem index_cons_eq (c : UInt8) (l : List UInt8) : Lib.index (c :: l) [c] = 0 := by rw [Lib.index]; simp [List.isPrefixOf]
theorem index_cons_ne {b c : UInt8} (l : List UInt8) (h : b ≠ c) : Lib.index (b :: l) [c] = if Lib.index l [c] = -1 then -1 else Lib.index l [c] + 1 := by
  have hp : ([c] : List UInt8).isPrefixOf (b :: l) = false := by simp [List.isPrefixOf, Ne.symm h]
  rw [Lib.index, hp]; simp
theorem u8_ne {b c : UInt8} (h : b ≠ c) : b.toNat ≠ c.toNat := fun e => h (UInt8.toNat_inj.1 e)
theorem ahd_cons_ne {x : Nat} (l : List Nat) (h : x ≠ 46) : ahd (x :: l) = x :: ahd l := by
  unfold ahd; rw [List.takeWhile_cons_of_pos (by simpa using h)]
theorem bhd_cons_ne {x : Nat} (l : List Nat) (h : x ≠ 46) : bhd (x :: l) = bhd l := by
  unfold bhd; rw [List.dropWhile_cons_of_pos (by simpa using h)]
theorem ahd_cons_eq (l : List Nat) : ahd (46 :: l) = [] := by
  unfold ahd; rw [List.takeWhile_cons_of_neg (by simp)]
theorem bhd_cons_eq (l : List Nat) : bhd (46 :: l) = l := by
  unfold bhd; rw [List.dropWhile_cons_of_neg (by simp)]; rfl
theorem cut_dot : ∀ l : List UInt8, (Lib.cut l [46]).1.map UInt8.toNat = ahd (l.map UInt8.toNat) ∧ (Lib.cut l [46]).2.1.map UInt8.toNat = bhd (l.map UInt8.toNat) ∧ (Lib.cut l [46]).2.2 = (l.map UInt8.toNat).contains 46
  | [] => ⟨rfl, rfl, rfl⟩
  | b :: l => by
    obtain ⟨h1, h2, h3⟩ := cut_dot l
    by_cases hb : b = 46
    · subst hb
      have e : Lib.cut (46 :: l) [46] = ([], l, true) := by
        unfold Lib.cut
        rw [index_cons_eq]; simp
      rw [e, List.map_cons]
      exact ⟨(ahd_cons_eq _).symm, (bhd_cons_eq _).symm, by simp⟩
    · have hn : b.toNat ≠ 46 := u8_ne hb
      have hc : (b.toNat :: l.map UInt8.toNat).contains 46 = (l.map UInt8.toNat).contains 46 := by
        rw [Bool.eq_iff_iff, List.contains_iff_mem, List.contains_iff_mem, List.mem_cons]
        constructor
        · rintro (h | h)
          · exact absurd h.symm hn
          · exact h
        · exact Or.inr
      rw [List.map_cons, ahd_cons_ne _ hn, bhd_cons_ne _ hn, hc, ← h1, ← h2, ← h3]
      have hge := Lib.index_ge l [46]
      unfold Lib.cut
      rw [index_cons_ne l hb]
      by_cases hm : Lib.index l [46] = -1
      · rw [if_pos hm, hm]; simp
      · rw [if_neg hm]
        have e0 : 0 ≤ Lib.index l [46] := by omega
        have e1 : 0 ≤ Lib.index l [46] + 1 := by omega
        rw [if_pos e0, if_pos e1]
        obtain ⟨j, hj⟩ : ∃ j : Nat, Lib.index l [46] = j := ⟨(Lib.index l [46]).toNat, by omega⟩
        rw [hj]
        have e2 : ((j : Int) + 1).toNat = j + 1 := by omega
        rw [e2, Int.toNat_natCast]
        refine ⟨rfl, ?_, rfl⟩
        show (List.drop (j + 1 + 1) (b :: l)).map _ = _
        rw [List.drop_succ_cons]; rfl
theorem has_comma : ∀ l : List UInt8, decide (0 ≤ Lib.indexByte l 44) = (l.map UInt8.toNat).contains 44
  | [] => rfl
  | b :: l => by
    have ih := has_comma l
    have hge := Lib.indexByte_ge l 44
    by_cases hb : b = 44
    · subst hb; simp [Lib.indexByte]
    · have hn : b.toNat ≠ 44 := u8_ne hb
      have hc : (b.toNat :: l.map UInt8.toNat).contains 44 = (l.map UInt8.toNat).contains 44 := by
        rw [Bool.eq_iff_iff, List.contains_iff_mem, List.contains_iff_mem, List.mem_cons]
        constructor
        · rintro (h | h)
          · exact absurd h.symm hn
          · exact h
        · exact Or.inr
      rw [List.map_cons, hc, ← ih]
      have e : (b == 44) = false := by simpa using hb
      have e1 : Lib.indexByte (b :: l) 44 = if Lib.indexByte l 44 == -1 then -1 else Lib.indexByte l 44 + 1 := by rw [Lib.indexByte, e]; simp
      rw [e1]
      by_cases hm : Lib.indexByte l 44 = -1
      · rw [hm]; rfl
      · have : (Lib.indexByte l 44 == -1) = false := by simpa using hm
        rw [this, decide_eq_decide]
        show (0 ≤ Lib.indexByte l 44 + 1) ↔ _
        omega
theorem replaceK_comma : ∀ (l : List UInt8) (k : Nat), l.count 44 ≤ k → Lib.replaceK [44] [] k l = l.filter (fun b => b != 44)
  | [], k, _ => by cases k <;> simp [Lib.replaceK, Lib.index]
  | b :: l, k, hk => by
    by_cases hb : b = 44
    · subst hb
      rw [List.count_cons_self] at hk
      obtain ⟨k, rfl⟩ : ∃ k', k = k' + 1 := ⟨k - 1, by omega⟩
      have ih := replaceK_comma l k (by omega)
      rw [Lib.replaceK_hit [44] [] k (44 :: l) 0 (index_cons_eq 44 l), List.filter_cons_of_neg (by simp), ← ih]
      rfl
    · rw [List.count_cons_of_ne (by simpa using hb)] at hk
      have ih := replaceK_comma l k hk
      have hf : List.filter (fun b => b != 44) (b :: l) = b :: List.filter (fun b => b != 44) l := by rw [List.filter_cons]; simp [hb]
      rw [hf, ← ih]
      cases k with
      | zero => rfl
      | succ k =>
        have hge := Lib.index_ge l [44]
        have hix := index_cons_ne l hb
        by_cases hm : Lib.index l [44] = -1
        · rw [if_pos hm] at hix
          rw [Lib.replaceK, Lib.replaceK, hix, hm]; rfl
        · rw [if_neg hm] at hix
          obtain ⟨j, hj⟩ : ∃ j : Nat, Lib.index l [44] = j := ⟨(Lib.index l [44]).toNat, by omega⟩
          rw [Lib.replaceK_hit [44] [] k (b :: l) (j + 1) (by rw [hix, hj]; omega), Lib.replaceK_hit [44] [] k l j hj]
          show List.take (j + 1) (b :: l) ++ [] ++ Lib.replaceK [44] [] k (List.drop (j + 1 + 1) (b :: l)) = _
          rw [List.drop_succ_cons, List.take_succ_cons]; rfl
theorem replace_comma (l : List UInt8) : (Lib.replaceAll l [44] []).map UInt8.toNat = nocom (l.map UInt8.toNat) := by
  have e : Lib.replaceAll l [44] [] = l.filter (fun b => b != 44) := by
    unfold Lib.replaceAll Lib.replace Lib.replaceNum
    rw [if_neg (by decide), if_pos (.inl (by decide)), Lib.count_one]
    exact replaceK_comma l _ (Nat.le_refl _)
  rw [e]
  unfold nocom
  rw [List.filter_map]
  congr 1
  refine List.filter_congr fun b _ => ?_
  show (b != 44) = (b.toNat != 44)
  rw [Bool.eq_iff_iff]
  simp only [bne_iff_ne, ne_eq]
  constructor
  · exact fun h => u8_ne h
  · exact fun h e => h (by rw [e]; rfl)
theorem repeat_nought : ∀ c, (Lib.repeatL [48] c).map UInt8.toNat = List.replicate c 48
  | 0 => rfl
  | c + 1 => by rw [Lib.repeatL, List.map_append, repeat_nought c, List.replicate_succ]; rfl

/-- Has a text a full stop? -/
def dotB (l : List Nat) : Bool := l.contains 46
/-- .. a comma? -/
def comB (l : List Nat) : Bool := l.contains 44
set_option maxRecDepth 100000 in
theorem scut_any (s : ByteArray) (w : World) (hs : s.size ≤ 1000000) (hm : MaxLen w) : Calls Tryz.prog 21 #[.string s, .string ⟨#[46]⟩] w (RetVal w (.tuple #[.string (str (ahd (codes s))), .string (str (bhd (codes s))), .bool (dotB (codes s))])) := by
  obtain ⟨m, hm⟩ := hm
  refine (Tryz.strings_Cut s ⟨#[46]⟩ m w (by omega) hm).mono ?_
  rintro e w' ⟨he, n, rfl⟩
  obtain ⟨h1, h2, h3⟩ := cut_dot s.data.toList
  refine ⟨?_, Below.of_quiet⟩
  have e46 : (⟨#[46]⟩ : ByteArray).data.toList = [46] := rfl
  rw [he, e46, mk_str, mk_str, h1, h2, h3]; rfl
set_option maxRecDepth 100000 in
theorem scontains_any (s : ByteArray) (w : World) : Calls Tryz.prog 39 #[.string s, .string ⟨#[44]⟩] w fun e w' => e = .returned (.bool (comB (codes s))) ∧ w' = w := by
  refine (Tryz.strings_Contains_one s 44 w).mono ?_
  rintro e w' ⟨he, hw⟩
  exact ⟨by rw [he, has_comma]; rfl, hw⟩
set_option maxRecDepth 100000 in
theorem sreplace_any (s : ByteArray) (w : World) (hs : s.size ≤ 1000000) (hm : MaxLen w) : Calls Tryz.prog 40 #[.string s, .string ⟨#[44]⟩, .string ⟨#[]⟩] w (RetVal w (.string (str (nocom (codes s))))) := by
  obtain ⟨m, hm⟩ := hm
  refine (Tryz.strings_ReplaceAll s ⟨#[44]⟩ ⟨#[]⟩ m w (by omega) hm (by decide) (by show s.size + _ * 0 ≤ _; omega)).mono ?_
  rintro e w' ⟨he, hb⟩
  refine ⟨?_, hb⟩
  rw [he, mk_str]
  show Ending.returned (.string (str ((Lib.replaceAll s.data.toList [44] []).map _))) = _
  rw [replace_comma]; rfl
set_option maxRecDepth 100000 in
theorem srepeat_any (c : Nat) (w : World) (hc : c ≤ 1000000) : Calls Tryz.prog 47 #[.string ⟨#[48]⟩, .int .i64 (c : Int)] w (RetVal w (.string (str (List.replicate c 48)))) := by
  refine (Tryz.strings_Repeat ⟨#[48]⟩ c w (by omega) (by show 1 * c ≤ _; omega)).mono ?_
  rintro e w' ⟨he, hb⟩
  refine ⟨?_, hb⟩
  rw [he, mk_str]
  show Ending.returned (.string (str ((Lib.repeatL [48] c).map _))) = _
  rw [repeat_nought]

end Go.Proofs.YtllcjahekckbfaaGreatDoor
