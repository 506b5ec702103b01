/-
 The third loop of the document's Allocate: what is left, place by place; rows read and written in drawn regions.
-/
import Derived.Test.YthlhpgphmfnlgaaGreatRouDf
import Derived.Test.YthlhpgphmfnlgaaGreatAllDecD
set_option maxRecDepth 100000
set_option maxHeartbeats 32000000
set_option linter.unusedVariables false
set_option linter.unusedSimpArgs false
namespace Go.Proofs.YthlhpgphmfnlgaaGreat
open Go.RowKit
def curD (dr : Nat → Int × Nat) (zs : List Nat) : Nat → Nat → Int × Nat
 | 0, j => dr j
 | t + 1, j => if j = gd zs t then (-1, 0) else curD dr zs t j
theorem curD_up {dr : Nat → Int × Nat} {zs : List Nat} {MM j : Nat} : ∀ t, up (curD dr zs t j).1 (curD dr zs t j).2 MM = curR (up (-1) 0 MM) (fun j => up (dr j).1 (dr j).2 MM) zs t j
 | 0 => rfl
 | t + 1 => by
   show up (if j = gd zs t then ((-1, 0) : Int × Nat) else curD dr zs t j).1 (if j = gd zs t then ((-1, 0) : Int × Nat) else curD dr zs t j).2 MM = (if j = gd zs t then _ else _)
   by_cases e : j = gd zs t
   · rw [if_pos e, if_pos e]
   · rw [if_neg e, if_neg e]; exact curD_up t
theorem curD_all {dr : Nat → Int × Nat} {zs : List Nat} {j : Nat} {Q : Int × Nat → Prop} (h0 : Q (-1, 0)) (h : Q (dr j)) : ∀ t, Q (curD dr zs t j)
 | 0 => h
 | t + 1 => by
   show Q (if j = gd zs t then _ else _)
   by_cases e : j = gd zs t
   · rw [if_pos e]; exact h0
   · rw [if_neg e]; exact curD_all h0 h t
theorem cmp_over {i j : Int} {s t M : Nat} (h1 : s ≤ M) (h2 : t ≤ M) : decide (0 < cmpD i s j t) = decide (up j t M < up i s M) := by
 rw [cmpD_at h1 h2]
 rcases cmpZ_cases (up i s M) (up j t M) with ⟨h, e⟩ | ⟨h, e⟩ | ⟨h, e⟩ <;> rw [e] <;> simp <;> omega
theorem cmp_total {x z i s S : Nat} (hz : z * 10 ^ s = i * 10 ^ S) : (x < z → cmpD (x : Int) S (i : Int) s = -1) ∧ (x = z → cmpD (x : Int) S (i : Int) s = 0) := by
 rw [cmpD_at (M := S + s) (by omega) (by omega)]
 have e1 : up (x : Int) S (S + s) = ((x * 10 ^ s : Nat) : Int) := by unfold up; rw [Nat.add_sub_cancel_left, Int.natCast_mul]
 have e2 : up (i : Int) s (S + s) = ((z * 10 ^ s : Nat) : Int) := by unfold up; rw [Nat.add_sub_cancel, hz, Int.natCast_mul]
 rw [e1, e2]
 refine ⟨fun h => cmpZ_lt ?_, fun h => cmpZ_eq (by rw [h])⟩
 have := Nat.mul_lt_mul_of_pos_right h (ten_pos s)
 omega
theorem RowQ.celY {w : World} {g j s n c : Nat} {i : Int} {A : Option Addr} {l : List DQ} (h : RowQ w g l) (hj : j < l.length) (hd : dOf l j = (i, s)) (hp : pOf l j = (A, n, c)) : Cel w g (0 + j * 3) (.bool (ngB i)) (.slice A n c) (.int .i64 (s : Int)) := by
 obtain ⟨h0, h1, h2⟩ := h.spot hj hd hp
 rw [Nat.zero_add]
 exact ⟨h0, h1, h2, h.lt⟩
def SR (bs : List (Nat × Value × Value × Value)) (g : Nat) (l : List DQ) (v : World) : Prop := SB bs v ∧ RowQ v g l
section
variable {o : Oper} {ρ : Operand → Value} {x y : Operand} {w : World}
theorem e_idxZ {b f n c j : Nat} (hj : j < n) (hnc : n ≤ c) (hcm : c ≤ maxLen) (h : o.op = .indexAddr 26 x y) (hx : ρ x = .slice (some ⟨b, f, none⟩) n c) (hy : ρ y = .int .i64 (j : Int)) : (execOp ρ o).run Tryz.prog w = .ok (.value (.pointer (some ⟨b, f + j * 3, none⟩))) w := by
 unfold maxLen at hcm
 unfold execOp; rw [h]
 simp only [hx, hy]
 go_simp
theorem e_loadZ {b f : Nat} {x0 x1 x2 : Value} (h : o.op = .load 25 x) (hx : ρ x = .pointer (some ⟨b, f, none⟩)) (X : Cel w b f x0 x1 x2) : (execOp ρ o).run Tryz.prog w = .ok (.value (.agg #[x0, x1, x2])) w := by
 obtain ⟨c0, c1, c2, _⟩ := X
 unfold execOp; rw [h]
 simp only [hx]
 go_simp
theorem e_storeZ {g j : Nat} {l : List DQ} {b : Bool} {A : Option Addr} {n c : Nat} {i : Int} (h : o.op = .store 25 x y) (hx : ρ x = .pointer (some ⟨g, 0 + j * 3, none⟩)) (hy : ρ y = .agg #[.bool b, .slice A n c, .int .i64 i]) (X : RowQ w g l) (hj : j < l.length) :
   (execOp ρ o).run Tryz.prog w = .ok .skip (((w.setCell ⟨g, j * 3, none⟩ (.bool b)).setCell ⟨g, j * 3 + 1, none⟩ (.slice A n c)).setCell ⟨g, j * 3 + 2, none⟩ (.int .i64 i)) := by
 obtain ⟨c0, c1, c2⟩ := X.cells hj
 obtain ⟨f0, f1, f2⟩ := X.frees hj
 rw [Nat.zero_add] at hx
 unfold execOp; rw [h]
 simp only [hx, hy]
 go_simp
end
end Go.Proofs.YthlhpgphmfnlgaaGreat
