/-
  Contracts of layer 11: the library's calls on texts with colons (Cut, LastIndex, Count, HasPrefix, Split), rows of texts in memory; Parent, Depth, Leaf, Under and the document's Parent, Under.
-/
import Derived.Test.YtaaikbbgbnbmkaaDoorNamB
set_option linter.unusedVariables false
set_option linter.unusedSimpArgs false
namespace Go.Proofs.YtaaikbbgbnbmkaaDoor
open Go.RowKit

theorem bs9_mk (l : List UInt8) : bs9 (⟨l.toArray⟩ : ByteArray) = l.map UInt8.toNat := rfl
theorem u8_58 {c : UInt8} : (c == 58) = (c.toNat == 58) := by
  rw [Bool.eq_iff_iff, beq_iff_eq, beq_iff_eq]
  constructor
  · rintro rfl; rfl
  · intro h; exact UInt8.toNat_inj.1 h
theorem index_58 (l : List UInt8) : (58 ∉ l.map UInt8.toNat ∧ Lib.index l [58] = -1) ∨ (58 ∈ l.map UInt8.toNat ∧ Lib.index l [58] = ((hdc (l.map UInt8.toNat)).length : Nat)) := by
  induction l with
  | nil => exact .inl ⟨List.not_mem_nil, rfl⟩
  | cons b l ih =>
    have hp : ([58] : List UInt8).isPrefixOf (b :: l) = (b == 58) := by
      show ((58 : UInt8) == b && List.isPrefixOf [] l) = _
      rw [List.isPrefixOf_nil_left, Bool.and_true, Bool.eq_iff_iff, beq_iff_eq, beq_iff_eq]
      exact eq_comm
    rw [Lib.index, hp, List.map_cons, hdc, u8_58]
    by_cases h : b.toNat = 58
    · rw [if_pos (by simpa using h), if_pos h]
      exact .inr ⟨by rw [h]; exact List.mem_cons_self, rfl⟩
    · rw [if_neg (by simpa using h), if_neg h]
      rcases ih with ⟨h1, h2⟩ | ⟨h1, h2⟩
      · refine .inl ⟨fun e => ?_, by rw [h2]; rfl⟩
        rcases List.mem_cons.1 e with e | e
        · exact h e.symm
        · exact h1 e
      · refine .inr ⟨List.mem_cons_of_mem _ h1, ?_⟩
        rw [h2, if_neg (by rw [beq_iff_eq]; omega), List.length_cons]; omega
/-- What stands behind the first colon. -/
def bdc (l : List Nat) : List Nat := l.drop ((hdc l).length + 1)
theorem hdc_take {l : List Nat} (h : 58 ∈ l) : hdc l = l.take (hdc l).length := by
  rcases colon_or l with g | ⟨x, u, rfl, g⟩
  · exact absurd h g
  · rw [hdc_at g, List.take_left']; rfl
theorem hdc_bdc {l : List Nat} (h : 58 ∈ l) : l = hdc l ++ 58 :: bdc l := by
  unfold bdc
  rcases colon_or l with g | ⟨x, u, rfl, g⟩
  · exact absurd h g
  · rw [hdc_at g, show x ++ 58 :: u = (x ++ [58]) ++ u by simp, List.drop_left' (by simp)]
    simp
theorem hdc_not (l : List Nat) : 58 ∉ hdc l := by
  rcases colon_or l with g | ⟨x, u, rfl, g⟩
  · rw [hdc_no g]; exact g
  · rw [hdc_at g]; exact g
theorem prt_cut {l : List Nat} (h : 58 ∈ l) : prt l = hdc l :: prt (bdc l) := by
  conv => lhs; rw [hdc_bdc h]
  rw [prt_at (hdc_not l)]
/-- The library's own variable holds some number. -/
def MaxLen (w : World) : Prop := ∃ m, w.cell? ⟨1, 0, none⟩ = some (.int .i64 m)
theorem MaxLen.on {w w' : World} (h : MaxLen w) (hb : Below w.heap.size w w') : MaxLen w' := by
  obtain ⟨m, hm⟩ := h
  have hlt : 1 < w.heap.size := World.block_lt_of_cell? w _ hm
  exact ⟨m, (hb.cell (p := ⟨1, 0, none⟩) hlt).trans hm⟩
theorem cut_yes {s X Y : ByteArray} {w : World} (hs : s.size ≤ 1000000) (hm : MaxLen w) (h : 58 ∈ bs9 s) (hX : bs9 X = hdc (bs9 s)) (hY : bs9 Y = bdc (bs9 s)) : Calls Tryd.prog 33 #[.string s, .string ⟨#[58]⟩] w (Ret9 w (.tuple #[.string X, .string Y, .bool true])) := by
  obtain ⟨m, hm⟩ := hm
  refine (Tryd.strings_Cut s ⟨#[58]⟩ m w (by omega) hm).mono ?_
  rintro e w' ⟨he, n, rfl⟩
  refine ⟨?_, below_drewN _ _⟩
  rcases index_58 s.data.toList with ⟨h1, _⟩ | ⟨_, h2⟩
  · exact absurd h h1
  · have e1 : Lib.cut s.data.toList [58] = (s.data.toList.take (hdc (bs9 s)).length, s.data.toList.drop ((hdc (bs9 s)).length + 1), true) := by
      unfold Lib.cut
      rw [h2, if_pos (by omega), Int.toNat_natCast]; rfl
    rw [he, show (⟨#[58]⟩ : ByteArray).data.toList = [58] from rfl, e1]
    have eX : (⟨(s.data.toList.take (hdc (bs9 s)).length).toArray⟩ : ByteArray) = X := bs9_inj (by rw [bs9_mk, List.map_take, hX]; exact (hdc_take h).symm)
    have eY : (⟨(s.data.toList.drop ((hdc (bs9 s)).length + 1)).toArray⟩ : ByteArray) = Y := bs9_inj (by rw [bs9_mk, List.map_drop, hY]; rfl)
    rw [eX, eY]
theorem cut_no {s : ByteArray} {w : World} (hs : s.size ≤ 1000000) (hm : MaxLen w) (h : 58 ∉ bs9 s) : Calls Tryd.prog 33 #[.string s, .string ⟨#[58]⟩] w (Ret9 w (.tuple #[.string s, .string ⟨#[]⟩, .bool false])) := by
  obtain ⟨m, hm⟩ := hm
  refine (Tryd.strings_Cut s ⟨#[58]⟩ m w (by omega) hm).mono ?_
  rintro e w' ⟨he, n, rfl⟩
  refine ⟨?_, below_drewN _ _⟩
  rcases index_58 s.data.toList with ⟨_, h2⟩ | ⟨h1, _⟩
  · have e1 : Lib.cut s.data.toList [58] = (s.data.toList, [], false) := by
      unfold Lib.cut
      rw [h2, if_neg (by decide)]
    rw [he, show (⟨#[58]⟩ : ByteArray).data.toList = [58] from rfl, e1]
  · exact absurd h1 h

/-- Where the last colon stands. -/
def LI (l : List Nat) (z : Int) : Prop := (58 ∈ l → z = ((prl l).length : Nat)) ∧ (58 ∉ l → z = -1)
theorem cut_at {l p q : List Nat} (h : l = p ++ 58 :: q) : l.take p.length = p ∧ l.drop (p.length + 1) = q := by
  subst h
  refine ⟨List.take_left' rfl, ?_⟩
  rw [show p ++ 58 :: q = (p ++ [58]) ++ q by simp]
  exact List.drop_left' (by simp)
/-- strings.LastIndex: where the last colon stands. -/
theorem last_is {s : ByteArray} {z : Int} {w : World} (hs : s.size ≤ 1000000) (h : LI (bs9 s) z) : Calls Tryd.prog 41 #[.string s, .string ⟨#[58]⟩] w (fun e w' => e = .returned (.int .i64 z) ∧ w' = w) := by
  refine (Tryd.strings_LastIndex_one s ⟨#[58]⟩ rfl (by omega) w).mono fun e w' ⟨he, hw⟩ => ⟨?_, hw⟩
  rw [he]
  have e58 : ((⟨#[58]⟩ : ByteArray)[0]'(by decide)).toNat = 58 := rfl
  have hg : ∀ j, (hj : j < s.size) → (bs9 s)[j]? = some (s.data[j]!).toNat := fun j hj => by
    rw [bs9_at s j hj]
    congr 2
    have hj' : j < s.data.size := hj
    rw [getElem!_pos s.data j hj']; rfl
  have key : Lib.lastIndexByte s 58 = z := by
    unfold Lib.lastIndexByte
    rcases Lib.lastIdx_spec s 58 s.size with ⟨h1, h2⟩ | ⟨i, h1, h2, h3, h4⟩
    · rw [h1, h.2]
      intro hm
      obtain ⟨j, hj⟩ := List.getElem?_of_mem hm
      have hjs : j < s.size := by
        have := (List.getElem?_eq_some_iff.1 hj).1
        rwa [bs9_len] at this
      rw [hg j hjs] at hj
      have := Option.some.inj hj
      exact h2 j hjs (by omega)
    · have h5 : (bs9 s)[i]? = some 58 := by rw [hg i h1]; exact congrArg some (by omega)
      have hm : 58 ∈ bs9 s := List.mem_of_getElem? h5
      rw [h2, h.1 hm]
      have hil : i < (bs9 s).length := by rw [bs9_len]; exact h1
      have e1 : bs9 s = (bs9 s).take i ++ 58 :: (bs9 s).drop (i + 1) := by
        have e2 : (bs9 s).drop i = 58 :: (bs9 s).drop (i + 1) := by
          rw [List.drop_eq_getElem_cons hil]
          congr 1
          have := List.getElem?_eq_getElem hil
          rw [h5] at this
          exact (Option.some.inj this).symm
        rw [← e2, List.take_append_drop]
      have hn : 58 ∉ (bs9 s).drop (i + 1) := by
        intro hx
        obtain ⟨j, hj⟩ := List.getElem?_of_mem hx
        rw [List.getElem?_drop] at hj
        have hjs : i + 1 + j < s.size := by
          have := (List.getElem?_eq_some_iff.1 hj).1
          rwa [bs9_len] at this
        rw [hg _ hjs] at hj
        have := Option.some.inj hj
        exact h4 (i + 1 + j) (by omega) hjs (by omega)
      have := (last_of (x := (bs9 s).take i) hn).1
      rw [← e1] at this
      rw [this, List.length_take]; omega
  show Ending.returned (Value.int .i64 (Lib.lastIndexByte s ((58 : Nat) : Int))) = _
  rw [← key]; rfl
theorem count_is {s : ByteArray} {z : Nat} {w : World} (h : (bs9 s).count 58 = z) : Calls Tryd.prog 42 #[.string s, .string ⟨#[58]⟩] w (fun e w' => e = .returned (.int .i64 (z : Int)) ∧ w' = w) := by
  refine (Tryd.strings_Count_one s 58 w).mono fun e w' ⟨he, hw⟩ => ⟨?_, hw⟩
  rw [he, ← h]
  have : Lib.countByte s.data.toList 58 = (bs9 s).count 58 := by
    unfold Lib.countByte bs9
    induction s.data.toList with
    | nil => rfl
    | cons b l ih => rw [List.count_cons, List.map_cons, List.count_cons, ih, u8_58]
  rw [this]
theorem prefix_is {s p : ByteArray} {b : Bool} {w : World} (h : (∃ u, bs9 s = bs9 p ++ u) ↔ b = true) : Calls Tryd.prog 40 #[.string s, .string p] w (fun e w' => e = .returned (.bool b) ∧ w' = w) := by
  refine (Tryd.strings_HasPrefix s p w).mono fun e w' ⟨he, hw⟩ => ⟨?_, hw⟩
  rw [he]
  have : Lib.hasPrefix s.data.toList p.data.toList = b := by
    unfold Lib.hasPrefix
    rw [Bool.eq_iff_iff, List.isPrefixOf_iff_prefix, ← h]
    constructor
    · rintro ⟨t, ht⟩
      exact ⟨t.map UInt8.toNat, by unfold bs9; rw [← ht, List.map_append]⟩
    · rintro ⟨u, hu⟩
      have e := congrArg (List.take p.data.toList.length) hu
      unfold bs9 at e
      rw [List.take_left' (by rw [List.length_map]), ← List.map_take] at e
      have inj : ∀ {x y : List UInt8}, x.map UInt8.toNat = y.map UInt8.toNat → x = y := by
        intro x
        induction x with
        | nil => intro y hy; cases y with
          | nil => rfl
          | cons _ _ => cases hy
        | cons a x ih =>
          intro y hy
          cases y with
          | nil => cases hy
          | cons c y =>
            rw [List.map_cons, List.map_cons] at hy
            obtain ⟨g1, g2⟩ := List.cons.inj hy
            rw [UInt8.toNat_inj.1 g1, ih g2]
      have e2 := inj e
      have e3 := List.take_append_drop p.data.toList.length s.data.toList
      rw [e2] at e3
      exact ⟨_, e3⟩
  rw [this]

end Go.Proofs.YtaaikbbgbnbmkaaDoor
