/- What the proofs of this layer need of the layer Mul, in one text. -/
import Derived.Test.YtjkandnbjbfeiaaDoorAllMulB
import Derived.Lib.BitFns
import Derived.Lib.Small
import Derived.Lib.Walk
set_option linter.unusedVariables false
set_option linter.unusedSimpArgs false

/-
  Contracts of layer 2, the fifth part: Shift, Ten, Power.
-/
namespace Go.Proofs.YtjkandnbjbfeiaaDoor.Num
open Go.RowKit

theorem dg_shift {m low : Nat} (hm : 0 < m) : dg (1000000000 ^ low * m) = List.replicate low 0 ++ dg m := by
  have e : val (List.replicate low 0 ++ dg m) = 1000000000 ^ low * m := by
    rw [val_append, val_zeros, val_dg, List.length_replicate, Nat.zero_add]
  rw [← e]
  refine dg_val (limbs_append.2 ⟨zeros_limbs _, limbs_dg m⟩) ?_
  rw [List.getLast?_append]
  intro h
  cases hd : (dg m).getLast? with
  | none => rw [List.getLast?_eq_none_iff, dg_eq_nil] at hd; omega
  | some v =>
    rw [hd] at h
    exact dg_last m (by rw [hd]; exact h)
theorem shift_num (a n : Nat) : a * 10 ^ n = 1000000000 ^ (n / 9) * (a * 10 ^ (n % 9)) := by
  rw [pow9, Nat.mul_left_comm, ← Nat.pow_add]
  congr 2
  omega
theorem shift_splice (low : Nat) (xs : List Nat) : splice (List.replicate (low + xs.length) 0) low xs = List.replicate low 0 ++ xs := by
  simp [splice, List.drop_replicate, List.take_replicate]
theorem ten_le {j : Nat} (hj : j ≤ 8) : 10 ^ j ≤ 100000000 := Nat.le_trans (Nat.pow_le_pow_right (by omega) hj) (by decide)

theorem dg_len_pow (a k : Nat) : (dg (a ^ k)).length ≤ k * (dg a).length + 1 := by
  induction k with
  | zero => rw [Nat.pow_zero, dg_pos (by decide)]; simp [dg_zero]
  | succ k ih =>
    rw [Nat.pow_succ, Nat.succ_mul]
    have := dg_len_mul (a ^ k) a
    omega

theorem bit_step (a k j : Nat) : a ^ (k / 2 ^ j) = a ^ (k / 2 ^ (j + 1)) * a ^ (k / 2 ^ (j + 1)) * (if k / 2 ^ j % 2 = 1 then a else 1) := by
  have e : k / 2 ^ j = 2 * (k / 2 ^ (j + 1)) + k / 2 ^ j % 2 := by
    rw [Nat.pow_succ, ← Nat.div_div_eq_div_mul]; omega
  have e2 : k / 2 ^ j % 2 = 0 ∨ k / 2 ^ j % 2 = 1 := by omega
  generalize k / 2 ^ (j + 1) = q at *
  rw [e]
  rcases e2 with h | h
  · rw [h, Nat.add_zero, Nat.two_mul, Nat.pow_add, if_neg (by omega), Nat.mul_one]
  · rw [h, Nat.pow_succ, Nat.two_mul, Nat.pow_add, if_pos (by omega)]

theorem and_one : ∀ x : Fin 256, bits .and .i64 (x.val : Int) 1 = ((x.val % 2 : Nat) : Int) := by decide +kernel
theorem lt_bitLen : ∀ x : Fin 256, x.val < 2 ^ Lib.bitLen x.val := by decide +kernel
theorem bit_of {k j : Nat} (hk : k ≤ 255) : bits BinOp.and IntKind.i64 ((k : Int) / 2 ^ j) 1 = ((k / 2 ^ j % 2 : Nat) : Int) := by
  have e : (k : Int) / 2 ^ j = ((k / 2 ^ j : Nat) : Int) := by rw [Int.natCast_ediv, Int.natCast_pow]; rfl
  rw [e]
  exact and_one ⟨k / 2 ^ j, Nat.lt_of_le_of_lt (Nat.div_le_self _ _) (by omega)⟩
theorem bit_yes {a k j q : Nat} (hj : 0 < j) (hq : q = a ^ (k / 2 ^ j) * a ^ (k / 2 ^ j)) (h : k / 2 ^ (j - 1) % 2 = 1) : q * a = a ^ (k / 2 ^ (j - 1)) := by
  have := bit_step a k (j - 1)
  rw [show j - 1 + 1 = j by omega, if_pos h] at this
  rw [this, hq]
theorem bit_no {a k j q : Nat} (hj : 0 < j) (hq : q = a ^ (k / 2 ^ j) * a ^ (k / 2 ^ j)) (h : k / 2 ^ (j - 1) % 2 = 0) : q = a ^ (k / 2 ^ (j - 1)) := by
  have := bit_step a k (j - 1)
  rw [show j - 1 + 1 = j by omega, if_neg (by omega), Nat.mul_one] at this
  rw [this, hq]
theorem pow_len {a k j n m : Nat} (hn : (dg a).length = n) (hk : k ≤ 255) (hn1 : n ≤ 1000) (h : (dg (a ^ (k / 2 ^ j))).length = m) : m ≤ 255001 := by
  have h1 := dg_len_pow a (k / 2 ^ j)
  have h2 : k / 2 ^ j ≤ 255 := Nat.le_trans (Nat.div_le_self _ _) hk
  have h3 : k / 2 ^ j * n ≤ 255 * 1000 := Nat.mul_le_mul h2 hn1
  rw [hn] at h1
  omega

end Go.Proofs.YtjkandnbjbfeiaaDoor.Num

/-
  The law's own examples of layer 2 (awake) answer true, whatever the memory.
-/
namespace Go.Proofs.YtjkandnbjbfeiaaDoor.Num
open Go.RowKit

def p1 : Nat := 999999999
def p2 : Nat := 999999998000000001
def p3 : Nat := 18446744073709551616
def p4 : Nat := 10000000000
def p5 : Nat := 7000
theorem dg_p2 : dg p2 = [1, 999999998] := by unfold p2; rw [dg_pos (by omega), dg_pos (by omega), dg_zero]
theorem dg_p4 : dg p4 = [0, 10] := by unfold p4; rw [dg_pos (by omega), dg_pos (by omega), dg_zero]
theorem Env.pushsub {w0 w w' : World} {l : List (Option Addr × Nat × Nat × Nat)} (h : Hid (Env w0 w l)) (hb : Below w.heap.size w w') {A : Option Addr} {n c a : Nat} (hn : Num w' w'.heap.size A n c a) : Hid (Env w0 w' ((A, n, c, a) :: l)) := Env.push h hb hn

end Go.Proofs.YtjkandnbjbfeiaaDoor.Num

/-
  Memory words for slices of int; the document's digits.
-/
namespace Go.Proofs.YtjkandnbjbfeiaaDoor.Num
open Go.RowKit

/-- Digits as they lie in cells. -/
def valsI (xs : List Nat) : List Value := xs.map (fun (x : Nat) => Value.int .i64 (x : Int))
theorem valsI_get {xs : List Nat} {j : Nat} (h : j < xs.length) : (valsI xs)[j]? = some (.int .i64 (gd xs j : Nat)) := by
  unfold valsI; rw [List.getElem?_map, gd_of_lt h]; rfl
theorem valsI_len (xs : List Nat) : (valsI xs).length = xs.length := by simp [valsI]
theorem valsI_one (xs : List Nat) : ∀ u ∈ valsI xs, u.oneCell' = true := by
  intro u hu
  obtain ⟨x, _, rfl⟩ := List.mem_map.1 hu
  rfl
theorem valsI_append (xs ys : List Nat) : valsI (xs ++ ys) = valsI xs ++ valsI ys := by simp [valsI]
theorem valsI_set (xs : List Nat) (i x : Nat) : valsI (xs.set i x) = (valsI xs).set i (.int .i64 (x : Int)) := by simp [valsI, List.map_set]

/-- The slice of int at A of n elements and capacity c reads as the digits xs. -/
structure Dig (w : World) (B : Nat) (A : Option Addr) (n c : Nat) (xs : List Nat) : Prop where
  len : xs.length = n
  cap : n ≤ c
  room : c ≤ maxLen
  row : Row w B A (valsI xs)
  addr : A = none → c = 0

section
variable {w w' : World} {B n c : Nat} {A : Option Addr} {xs : List Nat}
theorem Dig.keep (h : Dig w B A n c xs) (hk : ∀ p : Addr, p.block < B → w'.cell? p = w.cell? p) : Dig w' B A n c xs := ⟨h.len, h.cap, h.room, h.row.keep hk, h.addr⟩
theorem Dig.more {B' : Nat} (h : Dig w B A n c xs) (hB : B ≤ B') : Dig w B' A n c xs := ⟨h.len, h.cap, h.room, h.row.more hB, h.addr⟩
theorem Dig.below (h : Dig w B A n c xs) (hb : Below B w w') : Dig w' B A n c xs := h.keep fun _ hp => hb.cell hp
theorem Dig.at_ {k : Nat} (h : Dig w B A n c xs) (hk : k < n) : ∃ b o, A = some ⟨b, o, none⟩ ∧ b < B ∧ w.cell? ⟨b, o + k, none⟩ = some (.int .i64 (gd xs k : Nat)) := by
  rcases h.row with h0 | ⟨b, o, rfl, hb, hc⟩
  · have := congrArg List.length h0
    rw [valsI_len, h.len] at this
    simp at this; omega
  · exact ⟨b, o, rfl, hb, hc k _ (valsI_get (by rw [h.len]; exact hk))⟩
theorem Dig.nil : Dig w B none 0 0 [] := ⟨rfl, Nat.le_refl _, by simp [maxLen], .inl rfl, fun _ => rfl⟩
theorem Dig.of_own {base : Nat} {e : TypeId} (h : w.ownsRow base e 1 (.slice A n c) n (valsI xs)) : Dig w w.heap.size A n c xs := by
  have hl : xs.length = n := by have := h.1; rw [valsI_len] at this; omega
  rcases h.2 with ⟨h1, h2⟩ | ⟨g, cap, cur, hv, hg, hh, hnc, hcm, hsz, htk⟩
  · injection h1 with h1 h3 h4
    subst h1; subst h4
    subst h3
    obtain rfl : xs = [] := List.eq_nil_of_length_eq_zero hl
    exact Dig.nil
  · injection hv with h1 h3 h4
    subst h1; subst h4
    refine ⟨hl, hnc, hcm, .inr ⟨g, 0, rfl, ?_, fun j u hu => ?_⟩, fun h => by cases h⟩
    · rcases Nat.lt_or_ge g w.heap.size with hlt | hge
      · exact hlt
      · rw [Array.getElem?_eq_none hge] at hh; cases hh
    · have := h.cells (g := g) rfl j u hu
      simpa [Addr.add_lit] using this
end

theorem info_int : (Tryd.prog.info? 3).map (fun i => (i.zero, i.size, i.bytes)) = some (some (.int .i64 0), 1, 8) := by kernel_rfl
theorem info_int1 : (Tryd.prog.info? 3).map (·.size) = some 1 := by kernel_rfl

/-- 'append' of digits to digits of the call's own, nil or not. -/
theorem wpList_append_dig {P : Program} {w : World} {ops : Array Oper} {rest : List Oper} {o : Oper} {a : Act} {Q : Exit → Act → World → Prop} (hgd : o.guard = none) (s x : Operand) (t tx : TypeId)
    (ho : o.op = .call { callee := .builtin .append, args := #[s, x], argTypes := #[t, tx] })
    (base e e' : TypeId) (i : TypeInfo) (ht : P.underlying t = some (.slice e)) (htx : P.underlying tx = some (.slice e')) (hi : P.info? e = some i) (hz : i.zero = some (.int .i64 0)) (hz1 : i.size = 1) (hz2 : i.bytes = 8)
    (A : Option Addr) (n c : Nat) (xs : List Nat) (hs : a.eval s = .slice A n c) (hown : w.ownsRow base e 1 (.slice A n c) n (valsI xs))
    (B : Nat) (A' : Option Addr) (m c' : Nat) (ys : List Nat) (hx : a.eval x = .slice A' m c') (hy : Dig w B A' m c' ys) (hlen : n + m ≤ 1000000000000) (hbase : base ≤ w.heap.size)
    (h : ∀ A2 c2 w', w'.ownsRow base e 1 (.slice A2 (n + m) c2) (n + m) (valsI (xs ++ ys)) → w.grownBy w' (Value.slice A n c).ownBlock → wpList P ops Q rest (a.put o.dst (.slice A2 (n + m) c2)) w') : wpList P ops Q (o :: rest) a w := by
  refine wpList_plain hgd fun K hK => ?_
  cases A' with
  | none =>
    have hc := hy.addr rfl
    have hm : m = 0 := by have := hy.cap; omega
    subst hc; subst hm
    obtain rfl : ys = [] := List.eq_nil_of_length_eq_zero hy.len
    have hrun := run_append_owned_none (P := P) (w := w) base t o.type e i 1 ht hi _ n (valsI xs) hown
    rw [← append_types ht htx hi] at hrun
    unfold Oper.wp execOp
    simp only [ho, resolve, invoke, builtin, Sem.run_bind, Sem.run_pure, Result.andThen_ok, List.map_toArray, List.map_cons, List.map_nil, hs, hx, hrun]
    exact hK _ _ (h A c w (by simpa using hown) (World.grownBy.refl _ _))
  | some ad =>
    have hcells : ∀ j u, (valsI ys)[j]? = some u → w.cell? (ad.add j) = some u := by
      intro j u hu
      rcases hy.row with h0 | ⟨b, o', he, _, hc⟩
      · rw [h0] at hu; simp at hu
      · injection he with he
        subst he
        rw [Addr.add_lit]
        exact hc j u hu
    obtain ⟨v', w', hr, h2, h3, _⟩ := run_append_own (P := P) w base t o.type e i (.int .i64 0) 1 8 ht hi hz hz1 hz2 rfl (by decide) _ n (valsI xs) hown ad m c' (valsI ys) (by rw [valsI_len, hy.len, Nat.mul_one]) hcells (valsI_one ys) (by unfold maxLen; omega) (by omega) hbase
    rw [← append_types ht htx hi] at hr
    obtain ⟨A2, c2, rfl⟩ := own_shape h2
    rw [← valsI_append] at h2
    unfold Oper.wp execOp
    simp only [ho, resolve, invoke, builtin, Sem.run_bind, Sem.run_pure, Result.andThen_ok, List.map_toArray, List.map_cons, List.map_nil, hs, hx, hr]
    exact hK _ _ (h A2 c2 w' h2 h3)

theorem Dig.one (w : World) (x : Nat) (v : Int) (hv : v = x) (t : TypeId) : Dig (w.alloc (.cells #[.int .i64 v] t)) (w.heap.size + 1) (some ⟨w.heap.size, 0, none⟩) 1 1 [x] := by
  subst hv
  refine ⟨rfl, Nat.le_refl _, by simp [maxLen], .inr ⟨w.heap.size, 0, rfl, Nat.lt_succ_self _, fun j u hu => ?_⟩, fun h => by cases h⟩
  match j, hu with
  | 0, hu =>
    simp [valsI] at hu
    subst hu
    rw [cell_of_row _ w.heap.size 0 _ t (0, 0) (heap_alloc_new w _)]
    rfl

/-- Digits in a row of the call's own: n of them, of the number v. -/
def RetDig (W : World) (n v : Nat) (e : Ending) (w' : World) : Prop :=
  ∃ A c xs, e = .returned (.slice A n c) ∧ w'.ownsRow W.heap.size 3 1 (.slice A n c) n (valsI xs) ∧ xs.length = n ∧ (∀ j, gd xs j < 10) ∧ ten xs = v ∧ Below W.heap.size W w'

theorem dig_snoc {zs : List Nat} {d : Nat} (h : ∀ j, gd zs j < 10) (hd : d < 10) : ∀ j, gd (zs ++ [d]) j < 10 := by
  intro j
  rw [gd_append]
  split
  · exact h j
  · rcases Nat.eq_zero_or_pos (j - zs.length) with h0 | h0
    · rw [h0, gd_cons_zero]; exact hd
    · rw [gd_of_ge (by simp; omega)]; omega
theorem digit_lt {x j : Nat} (hx : x < 10 ^ (9 - j)) (hj : j < 9) : x / 10 < 10 ^ (9 - (j + 1)) := by
  rw [show 9 - j = (9 - (j + 1)) + 1 by omega, Nat.pow_succ] at hx
  omega

end Go.Proofs.YtjkandnbjbfeiaaDoor.Num

/-
  The document's number: digits of ten, each as great as it comes, as limbs.
-/
namespace Go.Proofs.YtjkandnbjbfeiaaDoor.Num
open Go.RowKit

theorem num_prod {o u : Nat} (hu : u ≤ 100000000) : o % 10 * u ≤ 900000000 := Nat.le_trans (Nat.mul_le_mul (show o % 10 ≤ 9 by omega) hu) (by omega)
theorem num_small {o o' x : Nat} {xs : List Nat} {i : Nat} (h : x + 10 ^ 9 * (o' + ten (xs.drop (i + 9))) = o + ten (xs.drop i)) (hi : xs.length ≤ i) (ho : 0 < o) : o' < o := by
  rw [List.drop_of_length_le hi, List.drop_of_length_le (by omega), ten] at h
  omega
theorem pow_le_8 {k : Nat} (hk : k < 9) : 10 ^ k ≤ 100000000 := Nat.le_trans (Nat.pow_le_pow_right (by omega) (show k ≤ 8 by omega)) (by decide)

theorem num_i64 {a b : Int} (h : a = b) : Value.int .i64 a = .int .i64 b := by rw [h]
theorem num_lt9 {x k : Nat} (h : x < 10 ^ (k + 1)) (hk : k < 9) : x < 1000000000 :=
  Nat.lt_of_lt_of_le h (Nat.le_trans (Nat.pow_le_pow_right (by omega) (show k + 1 ≤ 9 by omega)) (by decide))
theorem num_meas {n i M o o2 : Nat} (hi : i < n) (ho : o2 ≤ M) : (n - (i + 9)) * (M + 1) + o2 < (n - i) * (M + 1) + o := by
  have h1 : (n - (i + 9)) * (M + 1) ≤ (n - i - 1) * (M + 1) := Nat.mul_le_mul_right _ (by omega)
  have h2 : (n - i) * (M + 1) = (n - i - 1) * (M + 1) + (M + 1) := by rw [← Nat.succ_mul]; congr 1; omega
  omega

end Go.Proofs.YtjkandnbjbfeiaaDoor.Num

/-
  The document's Mul, Times, Square, Power, Ten, Shift.
-/
namespace Go.Proofs.YtjkandnbjbfeiaaDoor.Num
open Go.RowKit

/-- Block g is just the digits zs. -/
def OwnI (w : World) (g : Nat) (zs : List Nat) : Prop := w.heap[g]? = some (.cells (valsI zs).toArray 3 (0, 0))
theorem OwnI.cell {w : World} {g : Nat} {zs : List Nat} (h : OwnI w g zs) {i : Nat} (hi : i < zs.length) : w.cell? ⟨g, i, none⟩ = some (.int .i64 (gd zs i : Nat)) := by
  rw [cell_of_row w g i _ _ (0, 0) h]
  simpa using valsI_get hi
theorem OwnI.frozen {w : World} {g : Nat} {zs : List Nat} (h : OwnI w g zs) (i : Nat) : w.frozen? ⟨g, i, none⟩ = false := frozen_of_row w g i _ _ h
theorem OwnI.lt {w : World} {g : Nat} {zs : List Nat} (h : OwnI w g zs) : g < w.heap.size := by
  rcases Nat.lt_or_ge g w.heap.size with hlt | hge
  · exact hlt
  · unfold OwnI at h; rw [Array.getElem?_eq_none hge] at h; cases h
theorem OwnI.store {w : World} {g : Nat} {zs : List Nat} (h : OwnI w g zs) (i : Nat) (x : Nat) (v : Int) (hv : v = x) : OwnI (w.setCell ⟨g, i, none⟩ (.int .i64 v)) g (zs.set i x) := by
  subst hv
  unfold OwnI at h ⊢
  rw [heap_setCell_same w g i _ _ _ h, valsI_set]
  simp
theorem OwnI.drew {w : World} {g : Nat} {zs : List Nat} (h : OwnI w g zs) : OwnI w.drew g zs := h
theorem OwnI.dig {w : World} {g m : Nat} {zs : List Nat} (h : OwnI w g zs) (hl : zs.length = m) (hm : m ≤ 1000000000000) : Dig w w.heap.size (some ⟨g, 0, none⟩) m m zs := by
  subst hl
  refine ⟨rfl, Nat.le_refl _, by unfold maxLen; omega, .inr ⟨g, 0, rfl, h.lt, fun j u hu => ?_⟩, fun h => by cases h⟩
  rw [cell_of_row w g (0 + j) _ _ (0, 0) h, Nat.zero_add]
  simpa using hu
theorem made_vals (n : Nat) : (madeCells (Value.int .i64 0).cells (n * 1)).toList = valsI (List.replicate n 0) := by
  rw [Nat.mul_one]
  show (madeCells #[Value.int .i64 0] n).toList = _
  rw [toList_madeCells_one]
  simp [valsI]
theorem OwnI.of_made {w : World} {base n : Nat} (h : w.ownsRow base 3 1 (.slice (some ⟨base, 0, none⟩) n n) n (madeCells (Value.int .i64 0).cells (n * 1)).toList) : OwnI w base (List.replicate n 0) := by
  rw [made_vals] at h
  rcases h.2 with ⟨h1, _⟩ | ⟨g, cap, cur, hv, _, hh, _, _, hsz, htk⟩
  · cases h1
  · injection hv with h1 h2 h3
    injection h1 with h1
    injection h1 with h1
    subst h1; subst h3
    unfold OwnI
    rw [hh, ← htk, List.take_of_length_le (by simp; omega)]

theorem conv_lo {zs : List Nat} {i k v B : Nat} (hk : i + k < zs.length) (h : ∀ j, j < i + k → gd zs j ≤ B) (hv : v ≤ B) : ∀ j, j < i + (k + 1) → gd (zs.set (i + k) v) j ≤ B := by
  intro j hj
  rw [gd_set _ _ _ _ hk]
  split
  · exact hv
  · exact h j (by omega)
theorem conv_hi {zs : List Nat} {i k v B : Nat} (hk : i + k < zs.length) (h : ∀ j, i + k ≤ j → gd zs j ≤ B) : ∀ j, i + (k + 1) ≤ j → gd (zs.set (i + k) v) j ≤ B := by
  intro j hj
  rw [gd_set _ _ _ _ hk, if_neg (by omega)]
  exact h j (by omega)

end Go.Proofs.YtjkandnbjbfeiaaDoor.Num
