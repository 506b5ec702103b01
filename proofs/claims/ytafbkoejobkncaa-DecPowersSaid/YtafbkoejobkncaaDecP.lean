/-
  Rows of decimals in memory; the contract of Sum.
-/
import Derived.Test.YtafbkoejobkncaaDecQ
namespace Go.Proofs.Ytafbkoejobkncaa
open Go.RowKit

theorem St.sub {w0 w : World} {l l' : List (Option Addr × Nat × Nat × Nat)} {bs bs' : List (Nat × Value × Value × Value)} (h : St w0 w l bs) (hl : ∀ q ∈ l', q ∈ l) (hb : ∀ q ∈ bs', q ∈ bs) : St w0 w l' bs' :=
  ⟨h.bel, fun q hq => h.num q (hl q hq), fun q hq => h.box q (hb q hq)⟩

/-! Decimals at a common scale. -/
theorem up_up {i : Int} {s m M : Nat} (h1 : s ≤ m) (h2 : m ≤ M) : up (up i s m) m M = up i s M := by
  unfold up
  rw [Int.mul_assoc, ← Int.natCast_mul, ← Nat.pow_add]
  congr 4; omega
theorem up_add (i j : Int) (s M : Nat) : up (i + j) s M = up i s M + up j s M := Int.add_mul _ _ _
theorem up_addZ {i j : Int} {s t M : Nat} (h1 : s ≤ M) (h2 : t ≤ M) : up (addZ i s j t) (max s t) M = up i s M + up j t M := by
  unfold addZ
  rw [up_add, up_up (by omega) (by omega), up_up (by omega) (by omega)]
theorem up_subZ {i j : Int} {s t M : Nat} (h1 : s ≤ M) (h2 : t ≤ M) : up (subZ i s j t) (max s t) M = up i s M - up j t M := by
  rw [← sub_add, up_addZ h1 h2, up_neg_eq]; omega
theorem cmpZ_mul {x y : Int} {p : Int} (hp : 0 < p) : cmpZ (x * p) (y * p) = cmpZ x y := by
  rcases Int.lt_trichotomy x y with h | h | h
  · rw [cmpZ_lt h, cmpZ_lt (Int.mul_lt_mul_of_pos_right h hp)]
  · rw [cmpZ_eq h, cmpZ_eq (by rw [h])]
  · rw [cmpZ_gt h, cmpZ_gt (Int.mul_lt_mul_of_pos_right h hp)]
theorem cmpD_at {i j : Int} {s t M : Nat} (h1 : s ≤ M) (h2 : t ≤ M) : cmpD i s j t = cmpZ (up i s M) (up j t M) := by
  unfold cmpD
  rw [← up_up (i := i) (s := s) (m := max s t) (M := M) (by omega) (by omega), ← up_up (i := j) (s := t) (m := max s t) (M := M) (by omega) (by omega)]
  exact (cmpZ_mul (by have := ten_pos (M - max s t); omega)).symm
theorem abs_up_le (i : Int) (s M : Nat) : i.natAbs ≤ (up i s M).natAbs := by
  rw [abs_up]; exact Nat.le_mul_of_pos_right _ (ten_pos _)
theorem len_of_ten {a m : Nat} (h : a < 10 ^ m) : (dg a).length ≤ m :=
  dg_len_le (Nat.lt_of_lt_of_le h (Nat.pow_le_pow_left (by omega) _))
theorem ten_of_len {a n : Nat} (h : (dg a).length ≤ n) : a < 10 ^ (9 * n) := by
  rw [Nat.pow_mul]; exact pow_of_len rfl h

/-- The sum of the first k, and its scale. -/
def sumS (d : Nat → Int × Nat) : Nat → Nat
  | 0 => 0
  | k + 1 => max (sumS d k) (d k).2
def sumI (d : Nat → Int × Nat) : Nat → Int
  | 0 => 0
  | k + 1 => addZ (sumI d k) (sumS d k) (d k).1 (d k).2
def tot (d : Nat → Int × Nat) (M : Nat) : Nat → Int
  | 0 => 0
  | k + 1 => tot d M k + up (d k).1 (d k).2 M
theorem sum_up {d : Nat → Int × Nat} {M : Nat} : ∀ {k : Nat}, (∀ j, j < k → (d j).2 ≤ M) → sumS d k ≤ M ∧ up (sumI d k) (sumS d k) M = tot d M k := by
  intro k
  induction k with
  | zero => intro _; exact ⟨Nat.zero_le _, up_zero _ _⟩
  | succ k ih =>
    intro h
    have h1 := ih (fun j hj => h j (by omega))
    have h2 := h k (by omega)
    refine ⟨by show max _ _ ≤ M; have := h1.1; omega, ?_⟩
    show up (addZ _ _ _ _) (max _ _) M = _
    rw [up_addZ h1.1 h2, h1.2]; rfl
theorem tot_abs {d : Nat → Int × Nat} {M P : Nat} : ∀ {k : Nat}, (∀ j, j < k → (up (d j).1 (d j).2 M).natAbs ≤ P) → (tot d M k).natAbs ≤ k * P := by
  intro k
  induction k with
  | zero => intro _; simp [tot]
  | succ k ih =>
    intro h
    have h1 := ih (fun j hj => h j (by omega))
    have h2 := h k (by omega)
    rw [tot, Nat.succ_mul]
    omega
theorem tot_split (d : Nat → Int × Nat) (M h : Nat) : ∀ k, tot d M (h + k) = tot d M h + tot (fun j => d (h + j)) M k := by
  intro k
  induction k with
  | zero => simp [tot]
  | succ k ih =>
    rw [← Nat.add_assoc, tot, tot, ih]; omega
/-- Each of them is short. -/
def Short (d : Nat → Int × Nat) (n : Nat) : Prop := ∀ j, j < n → (dg (d j).1.natAbs).length ≤ 12 ∧ (d j).2 ≤ 60
theorem Short.up {d : Nat → Int × Nat} {n j : Nat} (h : Short d n) (hj : j < n) : (up (d j).1 (d j).2 60).natAbs ≤ 10 ^ 168 := by
  have h1 := h j hj
  rw [abs_up]
  have h2 := ten_of_len h1.1
  have h3 : 10 ^ (60 - (d j).2) ≤ 10 ^ 60 := Nat.pow_le_pow_right (by omega) (by omega)
  have h4 := Nat.mul_le_mul (Nat.le_of_lt h2) h3
  rw [← Nat.pow_add] at h4
  exact h4
theorem Short.sum {d : Nat → Int × Nat} {n k : Nat} (h : Short d n) (hk : k ≤ n) (hn : n ≤ 99) : sumS d k ≤ 60 ∧ (dg (sumI d k).natAbs).length ≤ 170 := by
  have h1 := sum_up (d := d) (M := 60) (k := k) (fun j hj => (h j (by omega)).2)
  refine ⟨h1.1, len_of_ten ?_⟩
  have h2 := tot_abs (d := d) (M := 60) (P := 10 ^ 168) (k := k) (fun j hj => h.up (by omega))
  have h3 := abs_up_le (sumI d k) (sumS d k) 60
  rw [h1.2] at h3
  have h4 : k * 10 ^ 168 ≤ 99 * 10 ^ 168 := Nat.mul_le_mul_right _ (by omega)
  have h5 : 99 * 10 ^ 168 < 10 ^ 170 := by decide
  exact Nat.lt_of_le_of_lt h3 (Nat.lt_of_le_of_lt h2 (Nat.lt_of_le_of_lt h4 h5))

/-- The slice at A of n decimals and capacity c reads as the decimals d, at the places p. -/
structure Decs (w : World) (B : Nat) (A : Option Addr) (n c : Nat) (d : Nat → Int × Nat) (p : Nat → Option Addr × Nat × Nat) : Prop where
  cap : n ≤ c
  room : c ≤ maxLen
  row : n = 0 ∨ ∃ b o, A = some ⟨b, o, none⟩ ∧ b < B ∧ ∀ j, j < n → w.cell? ⟨b, o + j * 3, none⟩ = some (.bool (ngB (d j).1)) ∧ w.cell? ⟨b, o + j * 3 + 1, none⟩ = some (.slice (p j).1 (p j).2.1 (p j).2.2) ∧ w.cell? ⟨b, o + j * 3 + 2, none⟩ = some (.int .i64 ((d j).2 : Int))
  num : ∀ j, j < n → Num w B (p j).1 (p j).2.1 (p j).2.2 (d j).1.natAbs
  short : Short d n
  addr : A = none → c = 0
theorem Decs.below {w w' : World} {B n c : Nat} {A : Option Addr} {d : Nat → Int × Nat} {p : Nat → Option Addr × Nat × Nat} (h : Decs w B A n c d p) (hb : Below B w w') : Decs w' B A n c d p := by
  refine ⟨h.cap, h.room, ?_, fun j hj => (h.num j hj).below hb, h.short, h.addr⟩
  rcases h.row with h0 | ⟨b, o, rfl, hB, hc⟩
  · exact .inl h0
  · exact .inr ⟨b, o, rfl, hB, fun j hj => ⟨(hb.cell (p := ⟨b, o + j * 3, none⟩) hB).trans (hc j hj).1, (hb.cell (p := ⟨b, o + j * 3 + 1, none⟩) hB).trans (hc j hj).2.1, (hb.cell (p := ⟨b, o + j * 3 + 2, none⟩) hB).trans (hc j hj).2.2⟩⟩
theorem Decs.on {w w' : World} {n c : Nat} {A : Option Addr} {d : Nat → Int × Nat} {p : Nat → Option Addr × Nat × Nat} (h : Decs w w.heap.size A n c d p) (hb : Below w.heap.size w w') : Decs w' w'.heap.size A n c d p := by
  have h2 := h.below hb
  refine ⟨h2.cap, h2.room, ?_, fun j hj => (h2.num j hj).more hb.size, h2.short, h2.addr⟩
  rcases h2.row with h0 | ⟨b, o, hA, hB, hc⟩
  · exact .inl h0
  · exact .inr ⟨b, o, hA, Nat.lt_of_lt_of_le hB hb.size, hc⟩
theorem Decs.at_ {w : World} {B n c j : Nat} {A : Option Addr} {d : Nat → Int × Nat} {p : Nat → Option Addr × Nat × Nat} (h : Decs w B A n c d p) (hj : j < n) :
    ∃ b o, A = some ⟨b, o, none⟩ ∧ b < B ∧ w.cell? ⟨b, o + j * 3, none⟩ = some (.bool (ngB (d j).1)) ∧ w.cell? ⟨b, o + j * 3 + 1, none⟩ = some (.slice (p j).1 (p j).2.1 (p j).2.2) ∧ w.cell? ⟨b, o + j * 3 + 2, none⟩ = some (.int .i64 ((d j).2 : Int)) := by
  rcases h.row with h0 | ⟨b, o, rfl, hB, hc⟩
  · omega
  · exact ⟨b, o, rfl, hB, (hc j hj).1, (hc j hj).2.1, (hc j hj).2.2⟩

set_option maxHeartbeats 4000000 in
theorem sum5_any (A : Option Addr) (n c : Nat) (d : Nat → Int × Nat) (p : Nat → Option Addr × Nat × Nat) (w : World) (h : Decs w w.heap.size A n c d p) (hn : n ≤ 99) :
    Calls Try.prog 37 #[.slice A n c] w (RetDec w (sumI d n) (sumS d n)) := by
  have hc := h.cap
  have hm := h.room
  unfold maxLen at hm
  have H := Lib.hid h
  clear h
  go_enter Try.func37, Try.ntmps37
  go_wp2_with fail
  generalize hW : World.alloc (World.alloc w _) _ = W0
  have E0 : St w W0 [(none, 0, 0, (sumI d 0).natAbs)] [((w.heap.size + 1), .bool (ngB (sumI d 0)), .slice none 0 0, .int .i64 (sumS d 0 : Int)), (w.heap.size, .bool false, .slice none 0 0, .int .i64 0)] := by
    rw [← hW]
    exact ((St.start w (l := [(none, 0, 0, 0)]) (by simp; rw [Num, dg_zero]; exact Lim.nil)).lay rfl).lay (by simp)
  clear hW
  go_loopw [8] (fun iv wr => ∃ (k : Nat) (A1 : Option Addr) (n1 c1 : Nat), k ≤ n ∧ iv = .int .i64 k ∧ St w wr [(A1, n1, c1, ((sumI d k)).natAbs)] [((w.heap.size + 1), (.bool (ngB (sumI d k))), (.slice A1 n1 c1), (.int .i64 ((sumS d k) : Int))), (w.heap.size, .bool false, .slice none 0 0, .int .i64 0)]) (fun iv _ => n - (intOf iv).toNat)
  case atStart => exact ⟨0, none, 0, 0, Nat.zero_le _, rfl, E0⟩
  case round =>
    obtain ⟨k, A1, n1, c1, hk, rfl, hE⟩ := hrel
    have E := Lib.hid hE
    have hL := H.out.short.sum hk hn
    have hn1 : n1 ≤ 170 := by have := (St.got E (A := A1) (n := n1) (c := c1) (a := (sumI d k).natAbs) (by simp)).len; have := hL.2; omega
    have hS := hL.1
    clear hE hL E0
    rcases Nat.lt_or_ge k n with hlt | hge
    · have HD := Lib.hid (H.out.on E.out.bel)
      have hsh := H.out.short k hlt
      obtain ⟨b, o, rfl, hb, x0, x1, x2⟩ := HD.out.at_ hlt
      have hnum := HD.out.num k hlt
      have hpn : (p k).2.1 ≤ 12 := by have := hnum.len; have := hsh.1; omega
      have hds := hsh.2
      have HN := Lib.hid hnum
      clear hnum hsh HD
      obtain ⟨r0, r1, r2, rf0, rf1, rf2, rlt⟩ := St.at_ (x0 := (.bool (ngB (sumI d k)))) (x1 := (.slice A1 n1 c1)) (x2 := (.int .i64 ((sumS d k) : Int))) (g := (w.heap.size + 1)) E (by simp)
      go_wp2_with fail
      have Ea := Lib.hid (St.alloc E.out (.cells #[.bool (ngB (d k).1), .slice (p k).1 (p k).2.1 (p k).2.2, .int .i64 ((d k).2 : Int)] 25))
      refine (add5_any A1 (p k).1 n1 c1 (p k).2.1 (p k).2.2 (sumS d k) (d k).2 (sumI d k) (d k).1 _ (St.got Ea (by simp)) (HN.out.on ((Below.refl _ _).alloc (Nat.le_refl _) _)) (by omega) (by omega) (by omega) (by omega)).mono ?_
      rintro e w2 ⟨A2, n2, c2, rfl, h1, hb1⟩
      have E2 := Lib.hid (St.push Ea.out hb1 h1)
      clear h1 hb1 r0 r1 r2 rf0 rf1 rf2 rlt x0 x1 x2 Ea
      obtain ⟨r0, r1, r2, rf0, rf1, rf2, rlt⟩ := St.at_ (x0 := (.bool (ngB (sumI d k)))) (x1 := (.slice A1 n1 c1)) (x2 := (.int .i64 ((sumS d k) : Int))) (g := (w.heap.size + 1)) E2 (by simp)
      go_wp2_with fail
      go_roundw
      case rel =>
        have E3 := St.store E2.out (g := (w.heap.size + 1)) (x0 := (.bool (ngB (sumI d k)))) (x1 := (.slice A1 n1 c1)) (x2 := (.int .i64 ((sumS d k) : Int))) (by simp) (noLimb_bool _) (noLimb_slice _ _ _) (noLimb_int _) [(w.heap.size, .bool false, .slice none 0 0, .int .i64 0)] (by simp <;> omega) (.bool (ngB (addZ (sumI d k) (sumS d k) (d k).1 (d k).2))) (.slice A2 n2 c2) (.int .i64 ((max (sumS d k) (d k).2 : Nat) : Int))
        exact ⟨k + 1, A2, n2, c2, by omega, by go_num, E3.sub (by simp [sumI]) (by simp [sumI, sumS])⟩
      case measure => simp [intOf]; omega
    · obtain rfl : k = n := by omega
      obtain ⟨r0, r1, r2, rf0, rf1, rf2, rlt⟩ := St.at_ (x0 := (.bool (ngB (sumI d k)))) (x1 := (.slice A1 n1 c1)) (x2 := (.int .i64 ((sumS d k) : Int))) (g := (w.heap.size + 1)) E (by simp)
      obtain ⟨q0, q1, q2, qf0, qf1, qf2, qlt⟩ := St.at_ (x0 := .bool false) (x1 := .slice none 0 0) (x2 := .int .i64 0) (g := w.heap.size) E (by simp)
      go_wp2_with fail
      have EF := Lib.hid (St.store E.out (g := w.heap.size) (x0 := .bool false) (x1 := .slice none 0 0) (x2 := .int .i64 0) (by simp) (noLimb_bool _) (noLimb_slice _ _ _) (noLimb_int _) [] (fun q hq => by cases hq) (.bool (ngB (sumI d k))) (.slice A1 n1 c1) (.int .i64 (sumS d k : Int)))
      obtain ⟨e0, e1, e2, _, _, _, _⟩ := St.at_ (x0 := .bool (ngB (sumI d k))) (x1 := .slice A1 n1 c1) (x2 := .int .i64 (sumS d k : Int)) (g := w.heap.size) EF (by simp)
      exact bodyPost_ret (v := .agg #[.bool (ngB (sumI d k)), .slice A1 n1 c1, .int .i64 (sumS d k : Int)]) (by simp [results, Try.results37, go_sem, e0, e1, e2]) rfl ⟨A1, n1, c1, rfl, St.got EF (by simp), EF.out.bel⟩

end Go.Proofs.Ytafbkoejobkncaa
