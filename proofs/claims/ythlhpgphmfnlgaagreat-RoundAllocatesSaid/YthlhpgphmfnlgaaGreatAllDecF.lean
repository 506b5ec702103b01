/- What the proofs of this layer need of the layer Dec, in one text. -/
import Derived.Test.YthlhpgphmfnlgaaGreatAllDecD
import Derived.Test.YthlhpgphmfnlgaaGreatLineE
set_option linter.unusedVariables false
set_option linter.unusedSimpArgs false

/-
  What DecSays and its like need beside: two integers in a block, tests of truth values, the last ten bits.
-/
namespace Go.Proofs.YthlhpgphmfnlgaaGreat
open Go.RowKit

/-- A block of two integers, none of them frozen. -/
structure Two (v : World) (g : Nat) (y z : Int) : Prop where
  c0 : v.cell? ⟨g, 0, none⟩ = some (.int .i64 y)
  c1 : v.cell? ⟨g, 1, none⟩ = some (.int .i64 z)
  lt : g < v.heap.size
theorem Two.newAt {g : Nat} (v : World) (y z : Int) (t : TypeId) (h : g = v.heap.size) : Two (v.alloc (.cells #[.int .i64 y, .int .i64 z] t)) g y z := by
  subst h
  exact ⟨by simp, by simp, by simp⟩
theorem Two.on {v v' : World} {g : Nat} {y z : Int} (h : Two v g y z) (hb : Below v.heap.size v v') : Two v' g y z :=
  ⟨(hb.cell (p := ⟨g, 0, none⟩) h.lt).trans h.c0, (hb.cell (p := ⟨g, 1, none⟩) h.lt).trans h.c1, Nat.lt_of_lt_of_le h.lt hb.size⟩
theorem Two.alloc {v : World} {g : Nat} {y z : Int} (h : Two v g y z) (o : Obj) : Two (v.alloc o) g y z := h.on ((Below.refl _ _).alloc (Nat.le_refl _) o)
theorem Two.drew {v : World} {g : Nat} {y z : Int} (h : Two v g y z) : Two v.drew g y z := h.on (Below.refl _ _).drew
/-- Boxes stand, and a block of two integers. -/
def SBT (bs : List (Nat × Value × Value × Value)) (g : Nat) (y z : Int) (v : World) : Prop := SB bs v ∧ Two v g y z
theorem SBT.of {w0 w : World} {l : List (Option Addr × Nat × Nat × Nat)} {bs : List (Nat × Value × Value × Value)} {g : Nat} {y z : Int} (h : Hid (St w0 w l bs)) (h' : Hid (Two w g y z)) : SBT bs g y z w := ⟨St.sb h, h'.out⟩
theorem SBT.at_ {w : World} {bs : List (Nat × Value × Value × Value)} {g' : Nat} {y z : Int} {g : Nat} {x0 x1 x2 : Value} (h : SBT bs g' y z w) (hm : (g, x0, x1, x2) ∈ bs) : Box w g x0 x1 x2 := h.1 _ hm

/-- The last ten bits. -/
def and10 (y : Int) : Nat := (BitVec.ofInt 64 y &&& BitVec.ofInt 64 1023).toNat
theorem and10_le (y : Int) : and10 y ≤ 1023 := by
  unfold and10
  rw [BitVec.toNat_and]
  exact Nat.le_trans Nat.and_le_right (by decide)
section
variable {o : Oper} {ρ : Operand → Value} {x y : Operand} {w : World}
set_option maxRecDepth 100000 in
theorem e_and {j : Int} {t t' : TypeId} (h : o.op = .binOp .and t x y t') (hx : ρ x = .int .i64 j) (hy : ρ y = .int .i64 1023) : (execOp ρ o).run Tryz.prog w = .ok (.value (.int .i64 (and10 j : Int))) w := by
  have hb := and10_le j
  have e : IntKind.i64.wrap (and10 j : Int) = (and10 j : Int) := IntWalk.i64_in _ ⟨by omega, by omega⟩
  unfold execOp; rw [h]
  simp only [hx, hy]
  have e2 : bits .and .i64 j 1023 = (and10 j : Int) := by rw [← e]; rfl
  go_simp
set_option maxRecDepth 100000 in
theorem e_beq {a b : Bool} {t' : TypeId} (h : o.op = .binOp .eql 4 x y t') (hx : ρ x = .bool a) (hy : ρ y = .bool b) : (execOp ρ o).run Tryz.prog w = .ok (.value (.bool (a == b))) w := by
  unfold execOp; rw [h]
  simp only [hx, hy]
  go_simp
set_option maxRecDepth 100000 in
theorem e_bne {a b : Bool} {t' : TypeId} (h : o.op = .binOp .neq 4 x y t') (hx : ρ x = .bool a) (hy : ρ y = .bool b) : (execOp ρ o).run Tryz.prog w = .ok (.value (.bool (a != b))) w := by
  unfold execOp; rw [h]
  simp only [hx, hy]
  go_simp
  cases a <;> cases b <;> rfl
end
set_option maxRecDepth 100000 in
/-- Make and the document's, as they are asked here. -/
theorem mk5_is {i : Int} {s : Nat} (w : World) (h1 : -9223372036854775808 ≤ i) (h2 : i ≤ 9223372036854775807) (hs : s ≤ 1023) : Calls Tryz.prog 15 #[.int .i64 i, .int .i64 (s : Int)] w (RetDec w i s) := mk5_any i s w h1 h2 (by omega)
set_option maxRecDepth 100000 in
theorem refmk5_is {i : Int} {s : Nat} (w : World) (h1 : -9223372036854775808 ≤ i) (h2 : i ≤ 9223372036854775807) (hs : s ≤ 1023) : Calls Tryz.prog 38 #[.int .i64 i, .int .i64 (s : Int)] w (RetDec w i s) := refMk5_any i s w h1 h2 (by omega)
set_option maxRecDepth 100000 in
theorem refright5_is {b : Bool} {A : Option Addr} {n c : Nat} {xs : List Nat} {k : Int} {w : World} {r : Bool} (h : Lim w w.heap.size A n c xs) (hr : rightD b n xs k = r) : Calls Tryz.prog 13 #[.agg #[.bool b, .slice A n c, .int .i64 k]] w (RetVal w (.bool r)) := by
  subst hr; exact refRight5_any b A n c xs k w h
set_option maxRecDepth 100000 in
theorem refsign_is {A : Option Addr} {n c s : Nat} {i z : Int} {w : World} (h : Num w w.heap.size A n c i.natAbs) (hz : i.sign = z) : Calls Tryz.prog 44 #[.agg #[.bool (ngB i), .slice A n c, .int .i64 (s : Int)]] w (RetVal w (.int .i64 z)) := by
  subst hz; exact refSign_any A n c s i w h
theorem num_lim5 {w : World} {B n c a : Nat} {A : Option Addr} (h : Num w B A n c a) : Lim w B A n c (dg a) := h

end Go.Proofs.YthlhpgphmfnlgaaGreat
