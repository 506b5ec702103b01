/- What the proofs of this layer need of the layer Mul, in one text. -/
import Derived.Test.YtjkandnbjbfeiaaDoorAllMulC
import Derived.Deep.RegionLaw
set_option linter.unusedVariables false
set_option linter.unusedSimpArgs false

/-
  The document's Ten and Shift.
-/
namespace Go.Proofs.YtjkandnbjbfeiaaDoor.Num
open Go.RowKit

section
variable {P : Program} {w : World} {o : Oper} {a : Act}
/-- 'append' of digits to digits of the call's own, as one operation. -/
theorem wp_append_dig {K : Act → World → Prop} {Q : Exit → Act → World → Prop} (s x : Operand) (t tx : TypeId)
    (ho : o.op = .call { callee := .builtin .append, args := #[s, x], argTypes := #[t, tx] })
    (base e e' : TypeId) (i : TypeInfo) (ht : P.underlying t = some (.slice e)) (htx : P.underlying tx = some (.slice e')) (hi : P.info? e = some i) (hz : i.zero = some (.int .i64 0)) (hz1 : i.size = 1) (hz2 : i.bytes = 8)
    (A : Option Addr) (n c : Nat) (xs : List Nat) (hs : a.eval s = .slice A n c) (hown : w.ownsRow base e 1 (.slice A n c) n (valsI xs))
    (B : Nat) (A' : Option Addr) (m c' : Nat) (ys : List Nat) (hx : a.eval x = .slice A' m c') (hy : Dig w B A' m c' ys) (hlen : n + m ≤ 1000000000000) (hbase : base ≤ w.heap.size)
    (hK : ∀ A2 c2 w', w'.ownsRow base e 1 (.slice A2 (n + m) c2) (n + m) (valsI (xs ++ ys)) → w.grownBy w' (Value.slice A n c).ownBlock → K (a.put o.dst (.slice A2 (n + m) c2)) w') : Oper.wp P o a w K Q := by
  cases A' with
  | none =>
    have hc := hy.addr rfl
    have hm : m = 0 := by have := hy.cap; omega
    subst hc; subst hm
    obtain rfl : ys = [] := List.eq_nil_of_length_eq_zero hy.len
    have hrun := run_append_owned_none (P := P) (w := w) base t o.type e i 1 ht hi _ n (valsI xs) hown
    rw [← append_types ht htx hi] at hrun
    unfold Oper.wp execOp
    simp only [ho, resolve, invoke, builtin, Sem.run_bind, Sem.run_pure, Result.andThen_ok, List.map_toArray, List.map_cons, List.map_nil, hs, hx, hrun]
    exact hK A c w (by simpa using hown) (World.grownBy.refl _ _)
  | some ad =>
    have hcells : ∀ j u, (valsI ys)[j]? = some u → w.cell? (ad.add j) = some u := by
      intro j u hu
      rcases hy.row with h0 | ⟨b, o', he, _, hc⟩
      · rw [h0] at hu; simp at hu
      · injection he with he
        subst he
        rw [Addr.add_lit]
        exact hc j u hu
    obtain ⟨v', w', hr, h2, h3, _⟩ := run_append_own (P := P) w base t o.type e i (.int .i64 0) 1 8 ht hi hz hz1 hz2 rfl (by decide) _ n (valsI xs) hown ad m c' (valsI ys) (by rw [valsI_len, hy.len, Nat.mul_one]) hcells (valsI_one ys) (by unfold maxLen; omega) (by omega) hbase
    rw [← append_types ht htx hi] at hr
    obtain ⟨A2, c2, rfl⟩ := own_shape h2
    rw [← valsI_append] at h2
    unfold Oper.wp execOp
    simp only [ho, resolve, invoke, builtin, Sem.run_bind, Sem.run_pure, Result.andThen_ok, List.map_toArray, List.map_cons, List.map_nil, hs, hx, hr]
    exact hK A2 c2 w' h2 h3
/-- The same at a step of a region that draws its order. -/
theorem step_append_dig {ops : Array Oper} {K : Act → World → Prop} {Q : Exit → Act → World → Prop} {E : Prop} (hgd : o.guard = none) (s x : Operand) (t tx : TypeId)
    (ho : o.op = .call { callee := .builtin .append, args := #[s, x], argTypes := #[t, tx] })
    (base e e' : TypeId) (i : TypeInfo) (ht : P.underlying t = some (.slice e)) (htx : P.underlying tx = some (.slice e')) (hi : P.info? e = some i) (hz : i.zero = some (.int .i64 0)) (hz1 : i.size = 1) (hz2 : i.bytes = 8)
    (A : Option Addr) (n c : Nat) (xs : List Nat) (hs : a.eval s = .slice A n c) (hown : w.ownsRow base e 1 (.slice A n c) n (valsI xs))
    (B : Nat) (A' : Option Addr) (m c' : Nat) (ys : List Nat) (hx : a.eval x = .slice A' m c') (hy : Dig w B A' m c' ys) (hlen : n + m ≤ 1000000000000) (hbase : base ≤ w.heap.size)
    (hK : ∀ A2 c2 w', w'.ownsRow base e 1 (.slice A2 (n + m) c2) (n + m) (valsI (xs ++ ys)) → w.grownBy w' (Value.slice A n c).ownBlock → K (a.put o.dst (.slice A2 (n + m) c2)) w') :
    if Region.wanted o (yielded ops a.tmps) = true then Oper.wp P o a w K Q else E := by
  have hw : Region.wanted o (yielded ops a.tmps) = true := by simp [Region.wanted, hgd]
  rw [if_pos hw]
  exact wp_append_dig s x t tx ho base e e' i ht htx hi hz hz1 hz2 A n c xs hs hown B A' m c' ys hx hy hlen hbase hK
end

theorem ten_noughts (k : Nat) (xs : List Nat) : ten (List.replicate k 0 ++ xs) = ten xs * 10 ^ k := by
  rw [ten_append, ten_zeros, List.length_replicate, Nat.zero_add, Nat.mul_comm]
theorem gd_noughts {k M : Nat} {xs : List Nat} (h : ∀ j, gd xs j ≤ M) : ∀ j, gd (List.replicate k 0 ++ xs) j ≤ M := by
  intro j
  rw [gd_append]
  split
  · rw [gd_zeros]; omega
  · exact h _
theorem shift_ten {a k : Nat} {xs : List Nat} (h : ten xs = a) : ten (List.replicate k 0 ++ xs) = a * 10 ^ k := by rw [ten_noughts, h]
theorem gd_one (j : Nat) : gd [1] j ≤ 1 := by
  rcases Nat.eq_zero_or_pos j with h | h
  · subst h; exact Nat.le_refl _
  · rw [gd_of_ge (by simp; omega)]; omega

theorem made_first {w w2 : World} {Z : Array Value} {k : Nat} {xs : List Nat} (HZ : Hid (Z.toList = valsI xs)) (HS : Hid (Z.size = k * 1)) (HB : Hid (Below ((w.alloc (.cells Z 3)).drew).heap.size (w.alloc (.cells Z 3)).drew w2)) (hk : k ≤ 1000000) :
    w2.ownsRow w.heap.size 3 1 (.slice (some ⟨w.heap.size, 0, none⟩) k k) k (valsI xs) ∧ Below w.heap.size w w2 := by
  have h := World.ownsRow_lit (base := w.heap.size) (e := 3) (size := 1) w Z k (Nat.le_refl _) (by unfold maxLen; omega) HS.out
  rw [HZ.out] at h
  have h2 : (w.alloc (.cells Z 3)).drew.ownsRow w.heap.size 3 1 (.slice (some ⟨w.heap.size, 0, none⟩) k k) k (valsI xs) := h
  refine ⟨own_below h2 HB.out, ?_⟩
  have h3 : Below w.heap.size w (w.alloc (.cells Z 3)).drew := ((Below.refl _ _).alloc (Nat.le_refl _) _).drew
  exact h3.trans (HB.out.mono h3.size)
theorem made_last {w w2 : World} {Z : Array Value} {k : Nat} {xs : List Nat} (HZ : Hid (Z.toList = valsI xs)) (HS : Hid (Z.size = k * 1)) (HB : Hid (Below w.drew.heap.size w.drew w2)) (hk : k ≤ 1000000) :
    (w2.alloc (.cells Z 3)).ownsRow w.heap.size 3 1 (.slice (some ⟨w2.heap.size, 0, none⟩) k k) k (valsI xs) ∧ Below w.heap.size w (w2.alloc (.cells Z 3)) ∧ w.heap.size ≤ w2.heap.size := by
  have hs : w.heap.size ≤ w2.heap.size := HB.out.size
  have h := World.ownsRow_lit (base := w.heap.size) (e := 3) (size := 1) w2 Z k hs (by unfold maxLen; omega) HS.out
  rw [HZ.out] at h
  have h3 : Below w.heap.size w w2 := (Below.refl _ _).drew.trans HB.out
  exact ⟨h, h3.alloc hs _, hs⟩

end Go.Proofs.YtjkandnbjbfeiaaDoor.Num
