/-
  Layer 7: the contracts as the laws' walks take them; what a comparison of texts yields.
-/
import Derived.Test.YtllcjahekckbfaaGreatDoorTxtE
import Derived.Test.YtllcjahekckbfaaGreatDoorLineE
set_option linter.unusedVariables false
set_option linter.unusedSimpArgs false
namespace Go.Proofs.YtllcjahekckbfaaGreatDoor
open Go.RowKit

section
variable {w : World} {s : ByteArray} {i : Int} {k : Nat}
theorem read_good (hs : s.size ≤ 1000) (hm : MaxLen w) (h1 : rst (codes s) ≠ []) (h2 : frmB (rst (codes s)) = true) (hi : numD (codes s) = i) (hk : (bhd (rst (codes s))).length = k) : Calls Tryz.prog 6 #[.string s] w (RetDecE w i k) := by
  subst hi; subst hk
  refine (read_any s w hs hm).mono fun e w' h => ?_
  rcases h with ⟨h, -⟩ | ⟨-, h, -⟩ | ⟨-, -, h⟩
  · exact absurd h h1
  · rw [h2] at h; cases h
  · exact h
theorem read_bad (hs : s.size ≤ 1000) (hm : MaxLen w) (h1 : rst (codes s) ≠ []) (h2 : frmB (rst (codes s)) = false) : Calls Tryz.prog 6 #[.string s] w (RetVal w (.tuple #[.agg #[.bool false, .slice none 0 0, .int .i64 0], .int .i64 3])) := by
  refine (read_any s w hs hm).mono fun e w' h => ?_
  rcases h with ⟨h, -⟩ | ⟨-, -, h⟩ | ⟨-, h, -⟩
  · exact absurd h h1
  · exact h
  · rw [h2] at h; cases h
theorem read_none (hs : s.size ≤ 1000) (hm : MaxLen w) (h1 : rst (codes s) = []) : Calls Tryz.prog 6 #[.string s] w (RetVal w (.tuple #[.agg #[.bool false, .slice none 0 0, .int .i64 0], .int .i64 2])) := by
  refine (read_any s w hs hm).mono fun e w' h => ?_
  rcases h with ⟨-, h⟩ | ⟨h, -⟩ | ⟨h, -⟩
  · exact h
  · exact absurd h1 h
  · exact absurd h1 h
theorem scale_is (hs : s.size ≤ 1000000) (hm : MaxLen w) (hk : (bhd (codes s)).length = k) : Calls Tryz.prog 15 #[.string s] w (RetVal w (.int .i64 (k : Int))) := by
  subst hk; exact scale_any s w hs hm
variable {A : Option Addr} {n c t : Nat} {x : ByteArray}
theorem dtext_is (h : Num w w.heap.size A n c i.natAbs) (hn : n ≤ 1000) (ht : t ≤ 1000) (hx : str (txtD i t) = x) : Calls Tryz.prog 8 #[.agg #[.bool (ngB i), .slice A n c, .int .i64 (t : Int)]] w (RetVal w (.string x)) := by
  subst hx; exact dtext_any A n c t i w h hn ht
theorem commas_is (h : Num w w.heap.size A n c i.natAbs) (hn : n ≤ 1000) (ht : t ≤ 1000) (hx : str (comD i t) = x) : Calls Tryz.prog 12 #[.agg #[.bool (ngB i), .slice A n c, .int .i64 (t : Int)]] w (RetVal w (.string x)) := by
  subst hx; exact commas_any A n c t i w h hn ht
theorem plain_is (h : Num w w.heap.size A n c i.natAbs) (hn : n ≤ 1000) (ht : t ≤ 1000) (hx : str (txtD (stripI i t 0) (t - stripK i t 0)) = x) : Calls Tryz.prog 10 #[.agg #[.bool (ngB i), .slice A n c, .int .i64 (t : Int)]] w (RetVal w (.string x)) := by
  subst hx; exact plain_any A n c t i w h hn ht
end
/-- A text told is read alike. -/
theorem read_told {w : World} {i : Int} {k : Nat} {s : ByteArray} (hs : s.size ≤ 1000) (hm : MaxLen w) (h : s = str (txtD i k) ∨ s = str (comD i k)) : Calls Tryz.prog 6 #[.string s] w (RetDecE w i k) := by
  rcases h with h | h
  · have hc : codes s = txtD i k := by rw [h]; exact codes_str (txtD_lt i k)
    obtain ⟨h1, h2, h3, h4, h5⟩ := told (i := i) (s := k) (.inl rfl)
    refine read_good hs hm (by rw [hc]; exact h2) (by rw [hc]; unfold txtD; rw [h1]; exact h3) (by rw [hc]; exact h4) (by rw [hc]; unfold txtD; rw [h1]; exact h5)
  · have hc : codes s = comD i k := by rw [h]; exact codes_str (comD_lt i k)
    obtain ⟨h1, h2, h3, h4, h5⟩ := told (i := i) (s := k) (.inr rfl)
    refine read_good hs hm (by rw [hc]; exact h2) (by rw [hc]; unfold comD; rw [h1]; exact h3) (by rw [hc]; exact h4) (by rw [hc]; unfold comD; rw [h1]; exact h5)
theorem txtD_val {i : Int} {s : Nat} (k : Nat) {l : List Nat} (h1 : 10 ^ k ≤ i.natAbs / 10 ^ s) (h2 : i.natAbs / 10 ^ s < 10 ^ (k + 1)) (h : sgT i ++ (pad (k + 1) (i.natAbs / 10 ^ s) ++ beh s i.natAbs) = l) : str (txtD i s) = str l := by
  unfold txtD; rw [txt_pad k h1 h2, h]
theorem comD_val {i : Int} {s : Nat} (k : Nat) {l : List Nat} (h1 : 10 ^ k ≤ i.natAbs / 10 ^ s) (h2 : i.natAbs / 10 ^ s < 10 ^ (k + 1)) (h : sgT i ++ (grp (pad (k + 1) (i.natAbs / 10 ^ s)) ++ beh s i.natAbs) = l) : str (comD i s) = str l := by
  unfold comD; rw [txt_pad k h1 h2, h]
theorem txtD_small {i : Int} {s : Nat} {l : List Nat} (h1 : i.natAbs / 10 ^ s = 0) (h : sgT i ++ ([48] ++ beh s i.natAbs) = l) : str (txtD i s) = str l := by
  unfold txtD; rw [h1, txt_zero, h]
section
variable {o : Oper} {ρ : Operand → Value} {x y : Operand} {w : World}
set_option maxRecDepth 100000 in
theorem e_seql {a b : ByteArray} {t t' : TypeId} {v : Bool} (h : o.op = .binOp .eql t x y t') (hx : ρ x = .string a) (hy : ρ y = .string b) (hv : (a.toList == b.toList) = v) : (execOp ρ o).run Tryz.prog w = .ok (.value (.bool v)) w := by
  unfold execOp; rw [h]
  simp only [hx, hy]
  subst hv
  go_simp
end

end Go.Proofs.YtllcjahekckbfaaGreatDoor
