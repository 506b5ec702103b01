/- What the proofs of this layer need of the layer Txt, in one text. -/
import Derived.Test.YtjkandnbjbfeiaaDoorAllTxtB
import Derived.Test.YtjkandnbjbfeiaaDoorAllLineB
import Derived.Test.YtjkandnbjbfeiaaDoorAllDigF
set_option linter.unusedVariables false
set_option linter.unusedSimpArgs false

/-
  Layer 7: the contracts as the laws' walks take them; what a comparison of texts yields.
-/
namespace Go.Proofs.YtjkandnbjbfeiaaDoor.Num
open Go.RowKit

section
variable {w : World} {s : ByteArray} {i : Int} {k : Nat}
theorem read_good (hs : s.size ≤ 1000) (hm : MaxLen w) (h1 : rst (codes s) ≠ []) (h2 : frmB (rst (codes s)) = true) (hi : numD (codes s) = i) (hk : (bhd (rst (codes s))).length = k) : Calls Tryd.prog 36 #[.string s] w (RetDecE w i k) := by
  subst hi; subst hk
  refine (read_any s w hs hm).mono fun e w' h => ?_
  rcases h with ⟨h, -⟩ | ⟨-, h, -⟩ | ⟨-, -, h⟩
  · exact absurd h h1
  · rw [h2] at h; cases h
  · exact h
theorem read_bad (hs : s.size ≤ 1000) (hm : MaxLen w) (h1 : rst (codes s) ≠ []) (h2 : frmB (rst (codes s)) = false) : Calls Tryd.prog 36 #[.string s] w (RetVal w (.tuple #[.agg #[.bool false, .slice none 0 0, .int .i64 0], .int .i64 3])) := by
  refine (read_any s w hs hm).mono fun e w' h => ?_
  rcases h with ⟨h, -⟩ | ⟨-, -, h⟩ | ⟨-, h, -⟩
  · exact absurd h h1
  · exact h
  · rw [h2] at h; cases h
theorem read_none (hs : s.size ≤ 1000) (hm : MaxLen w) (h1 : rst (codes s) = []) : Calls Tryd.prog 36 #[.string s] w (RetVal w (.tuple #[.agg #[.bool false, .slice none 0 0, .int .i64 0], .int .i64 2])) := by
  refine (read_any s w hs hm).mono fun e w' h => ?_
  rcases h with ⟨-, h⟩ | ⟨h, -⟩ | ⟨h, -⟩
  · exact h
  · exact absurd h1 h
  · exact absurd h1 h
variable {A : Option Addr} {n c t : Nat} {x : ByteArray}
end
/-- A text told is read alike. -/
theorem read_told {w : World} {i : Int} {k : Nat} {s : ByteArray} (hs : s.size ≤ 1000) (hm : MaxLen w) (h : s = str (txtD i k) ∨ s = str (comD i k)) : Calls Tryd.prog 36 #[.string s] w (RetDecE w i k) := by
  rcases h with h | h
  · have hc : codes s = txtD i k := by rw [h]; exact codes_str (txtD_lt i k)
    obtain ⟨h1, h2, h3, h4, h5⟩ := told (i := i) (s := k) (.inl rfl)
    refine read_good hs hm (by rw [hc]; exact h2) (by rw [hc]; unfold txtD; rw [h1]; exact h3) (by rw [hc]; exact h4) (by rw [hc]; unfold txtD; rw [h1]; exact h5)
  · have hc : codes s = comD i k := by rw [h]; exact codes_str (comD_lt i k)
    obtain ⟨h1, h2, h3, h4, h5⟩ := told (i := i) (s := k) (.inr rfl)
    refine read_good hs hm (by rw [hc]; exact h2) (by rw [hc]; unfold comD; rw [h1]; exact h3) (by rw [hc]; exact h4) (by rw [hc]; unfold comD; rw [h1]; exact h5)
theorem txtD_val {i : Int} {s : Nat} (k : Nat) {l : List Nat} (h1 : 10 ^ k ≤ i.natAbs / 10 ^ s) (h2 : i.natAbs / 10 ^ s < 10 ^ (k + 1)) (h : sgT i ++ (pad (k + 1) (i.natAbs / 10 ^ s) ++ beh s i.natAbs) = l) : str (txtD i s) = str l := by
  unfold txtD; rw [txt_pad k h1 h2, h]
theorem comD_val {i : Int} {s : Nat} (k : Nat) {l : List Nat} (h1 : 10 ^ k ≤ i.natAbs / 10 ^ s) (h2 : i.natAbs / 10 ^ s < 10 ^ (k + 1)) (h : sgT i ++ (grp (pad (k + 1) (i.natAbs / 10 ^ s)) ++ beh s i.natAbs) = l) : str (comD i s) = str l := by
  unfold comD; rw [txt_pad k h1 h2, h]
theorem txtD_small {i : Int} {s : Nat} {l : List Nat} (h1 : i.natAbs / 10 ^ s = 0) (h : sgT i ++ ([48] ++ beh s i.natAbs) = l) : str (txtD i s) = str l := by
  unfold txtD; rw [h1, txt_zero, h]
section
variable {o : Oper} {ρ : Operand → Value} {x y : Operand} {w : World}
set_option maxRecDepth 100000 in
theorem e_seql {a b : ByteArray} {t t' : TypeId} {v : Bool} (h : o.op = .binOp .eql t x y t') (hx : ρ x = .string a) (hy : ρ y = .string b) (hv : (a.toList == b.toList) = v) : (execOp ρ o).run Tryd.prog w = .ok (.value (.bool v)) w := by
  unfold execOp; rw [h]
  simp only [hx, hy]
  subst hv
  go_simp
end

end Go.Proofs.YtjkandnbjbfeiaaDoor.Num

/-
  Layer 7, the document's answers, the first part: digit, groups, whole, put, Scale.
-/
namespace Go.Proofs.YtjkandnbjbfeiaaDoor.Num
open Go.RowKit

theorem grp_short {l : List Nat} (h : l.length ≤ 3) : grp l = l := by
  match l, h with
  | [], _ => rfl
  | [a], _ => simp [grp]
  | [a, b], _ => simp [grp]
  | [a, b, c], _ => simp [grp]
theorem grp_app {y : List Nat} (hy : y.length = 3) : ∀ x : List Nat, x ≠ [] → grp (x ++ y) = grp x ++ 44 :: y
  | [], h => absurd rfl h
  | [c], _ => by
    have hne : y ≠ [] := fun e => by rw [e] at hy; cases hy
    show grp (c :: y) = _
    rw [grp_cons]
    unfold grpAt
    rw [if_pos ⟨hne, by rw [hy]⟩, grp_short (by omega)]
    simp [grp]
  | c :: d :: x, _ => by
    have ih := grp_app hy (d :: x) (by simp)
    show grp (c :: ((d :: x) ++ y)) = _
    rw [grp_cons, grp_cons]
    unfold grpAt
    have hl : ((d :: x) ++ y).length % 3 = (d :: x).length % 3 := by rw [List.length_append, hy]; omega
    by_cases h3 : (d :: x).length % 3 = 0
    · rw [if_pos ⟨by simp, by rw [hl]; exact h3⟩, if_pos ⟨by simp, h3⟩, ih]; rfl
    · rw [if_neg (fun h => h3 (by rw [← hl]; exact h.2)), if_neg (fun h => h3 h.2), ih]; rfl

theorem extract_one (s : ByteArray) (j m : Nat) (h : j < s.size) (hm : m = j + 1) : s.extract j m = str [(s[j]'h).toNat] := by
  subst hm
  have e : s = str (codes s) := (str_codes s).symm
  have hd := codes_drop s j h
  conv => lhs; rw [e]
  unfold str
  rw [ByteArray.extract_mk]
  simp only [List.extract_toArray, List.extract_eq_take_drop, ← List.map_drop, ← List.map_take]
  rw [hd, show j + 1 - j = 1 by omega]
  rfl
theorem drop_nil {s : ByteArray} {j : Nat} (h : j = s.size) : (codes s).drop j = [] := List.drop_of_length_le (by rw [codes_len, h]; exact Nat.le_refl _)
theorem gst_digit {c : Nat} {l : List Nat} {r : Nat} {cm : Bool} (h : 48 ≤ c ∧ c ≤ 57) (h2 : ¬ (cm = true ∧ 3 < r + 1)) : gst (c :: l) r cm = gst l (r + 1) cm := by
  rw [gst, if_pos h, if_neg h2]
theorem gst_more {c : Nat} {l : List Nat} {r : Nat} (h : 48 ≤ c ∧ c ≤ 57) (h2 : 3 < r + 1) : gst (c :: l) r true = false := by
  rw [gst, if_pos h, if_pos ⟨rfl, h2⟩]
theorem gst_comma {l : List Nat} {r : Nat} {cm : Bool} (h2 : ¬ (r < 1 ∨ 3 < r ∨ cm = true ∧ r ≠ 3)) : gst (44 :: l) r cm = gst l 0 true := by
  rw [gst, if_neg (by omega), if_pos rfl, if_neg h2]
theorem gst_comma_no {l : List Nat} {r : Nat} {cm : Bool} (h2 : r < 1 ∨ 3 < r ∨ cm = true ∧ r ≠ 3) : gst (44 :: l) r cm = false := by
  rw [gst, if_neg (by omega), if_pos rfl, if_pos h2]
theorem gst_other {c : Nat} {l : List Nat} {r : Nat} {cm : Bool} (h : ¬ (48 ≤ c ∧ c ≤ 57)) (h2 : c ≠ 44) : gst (c :: l) r cm = false := by
  rw [gst, if_neg h, if_neg h2]
theorem nocom_take (s : ByteArray) (j : Nat) (h : j < s.size) : nocom ((codes s).take (j + 1)) = nocom ((codes s).take j) ++ nocom [(s[j]'h).toNat] := by
  rw [codes_take s j h]; unfold nocom; rw [List.filter_append]
/-- What groups answers. -/
def RetGroups (W : World) (l : List Nat) (e : Ending) (w' : World) : Prop := (gst l 0 false = true ∧ RetVal W (.tuple #[.string (str (nocom l)), .bool true]) e w') ∨ (gst l 0 false = false ∧ ∃ S, RetVal W (.tuple #[.string S, .bool false]) e w')

end Go.Proofs.YtjkandnbjbfeiaaDoor.Num

/-
  Layer 7, the document's answers, the second part: whole, put, Text, Plain, Commas.
-/
namespace Go.Proofs.YtjkandnbjbfeiaaDoor.Num
open Go.RowKit

theorem zeros_ten {q : Nat} (hq : q ≤ 10) : (ByteArray.mk #[48, 48, 48, 48, 48, 48, 48, 48, 48, 48]).extract 0 q = str (List.replicate q 48) := by
  have e : (ByteArray.mk #[48, 48, 48, 48, 48, 48, 48, 48, 48, 48]) = str (List.replicate 10 48) := rfl
  rw [e, str_take, List.take_replicate, Nat.min_eq_left hq]
/-- What whole's text is cut into. -/
theorem whole_cut {a s k : Nat} (h : (k = 0 ∧ s < nd a) ∨ k + nd a = s + 1) : (List.replicate k 48 ++ txt a).take (k + nd a - s) = txt (a / 10 ^ s) ∧ (List.replicate k 48 ++ txt a).drop (k + nd a - s) = pad s a := by
  rcases h with ⟨rfl, h⟩ | h
  · simp only [List.replicate_zero, List.nil_append, Nat.zero_add]
    exact ⟨take_txt s a h, txt_drop (by omega)⟩
  · rw [← pad_zeros, h, show s + 1 - s = 1 by omega, pad_cons]
    rcases Nat.eq_zero_or_pos k with rfl | hk
    · rw [Nat.zero_add] at h
      have h1 := take_txt s a (by omega)
      have h2 : txt a = pad (s + 1) a := by rw [← h]; exact txt_eq_pad a
      rw [h, show s + 1 - s = 1 by omega, h2, pad_cons] at h1
      exact ⟨h1, rfl⟩
    · have h1 : a / 10 ^ s = 0 := div_ge_nd (by omega)
      rw [h1, txt_zero]
      exact ⟨rfl, rfl⟩

/-- What put makes of the parts of a decimal. -/
theorem put_parts (i : Int) (s : Nat) (x : List Nat) : (if ngB i then [45] else []) ++ (x ++ (if pad s i.natAbs = [] then [] else 46 :: pad s i.natAbs)) = sgT i ++ (x ++ beh s i.natAbs) := by
  have h1 : (if ngB i then [45] else []) = sgT i := by unfold sgT ngB; simp
  have h2 : (if pad s i.natAbs = [] then [] else 46 :: pad s i.natAbs) = beh s i.natAbs := by
    unfold beh
    have hl := pad_len s i.natAbs
    by_cases h0 : s = 0
    · subst h0; rfl
    · rw [if_neg h0, if_neg (fun e => by rw [e] at hl; simp at hl; omega)]
  rw [h1, h2]
theorem pad_bytes (s a : Nat) : ∀ c ∈ pad s a, c < 256 := fun c hc => by have := digs_pad s a c hc; omega

end Go.Proofs.YtjkandnbjbfeiaaDoor.Num

/-
  Layer 7, the document's answers, the third part: Parse.
-/
namespace Go.Proofs.YtjkandnbjbfeiaaDoor.Num
open Go.RowKit

/-- groups hands back no. -/
def RetNo (W : World) (e : Ending) (w' : World) : Prop := ∃ S, RetVal W (.tuple #[.string S, .bool false]) e w'
theorem dotB_cons_ne {x : Nat} {l : List Nat} (h : x ≠ 46) : dotB (x :: l) = dotB l := by
  unfold dotB
  rw [Bool.eq_iff_iff, List.contains_iff_mem, List.contains_iff_mem, List.mem_cons]
  constructor
  · rintro (e | e)
    · exact absurd e.symm h
    · exact e
  · exact Or.inr
theorem dotB_cons_eq {l : List Nat} : dotB (46 :: l) = true := by unfold dotB; simp
theorem ahd_nodot {l : List Nat} (h : dotB l = false) : ahd l = l := by
  induction l with
  | nil => rfl
  | cons c l ih =>
    have hc : c ≠ 46 := fun e => by subst e; rw [dotB_cons_eq] at h; cases h
    rw [dotB_cons_ne hc] at h
    rw [ahd_cons_ne _ hc, ih h]
theorem dgB_cons {x : Nat} {l : List Nat} : dgB (x :: l) = true ↔ (48 ≤ x ∧ x ≤ 57) ∧ dgB l = true := by
  rw [dgB_iff, digs_cons, dgB_iff]
theorem dgB_cons_yes {x : Nat} {l : List Nat} (h : 48 ≤ x ∧ x ≤ 57) : dgB (x :: l) = dgB l := by
  rw [Bool.eq_iff_iff, dgB_cons]; exact ⟨fun h' => h'.2, fun h' => ⟨h, h'⟩⟩
theorem dgB_cons_no {x : Nat} {l : List Nat} (h : ¬ (48 ≤ x ∧ x ≤ 57)) : dgB (x :: l) = false := by
  cases hx : dgB (x :: l) with
  | false => rfl
  | true => exact absurd (dgB_cons.1 hx).1 h

end Go.Proofs.YtjkandnbjbfeiaaDoor.Num
