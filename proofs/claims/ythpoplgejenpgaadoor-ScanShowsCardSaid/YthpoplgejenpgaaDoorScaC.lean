/-
  Contracts of layer 10, the third part: Where and the document's.
-/
import Derived.Test.YthpoplgejenpgaaDoorScaB
set_option linter.unusedVariables false
set_option linter.unusedSimpArgs false
namespace Go.Proofs.YthpoplgejenpgaaDoor
open Go.RowKit

/-- A block of two cells, none of them frozen. -/
structure Bx2 (v : World) (g : Nat) (x0 x1 : Value) : Prop where
  c0 : v.cell? ⟨g, 0, none⟩ = some x0
  c1 : v.cell? ⟨g, 1, none⟩ = some x1
  f0 : v.frozen? ⟨g, 0, none⟩ = false
  f1 : v.frozen? ⟨g, 1, none⟩ = false
  lt : g < v.heap.size
section
variable {v v' : World} {g : Nat} {x0 x1 : Value}
theorem Bx2.newAt (v : World) (x0 x1 : Value) (t : TypeId) (h : g = v.heap.size) : Bx2 (v.alloc (.cells #[x0, x1] t)) g x0 x1 := by
  subst h; exact ⟨by simp, by simp, by simp, by simp, by simp⟩
theorem Bx2.below {B : Nat} (h : Bx2 v g x0 x1) (hb : Below B v v') (hg : g < B) : Bx2 v' g x0 x1 :=
  ⟨(hb.cell (p := ⟨g, 0, none⟩) hg).trans h.c0, (hb.cell (p := ⟨g, 1, none⟩) hg).trans h.c1, (hb.frozen (p := ⟨g, 0, none⟩) hg).trans h.f0, (hb.frozen (p := ⟨g, 1, none⟩) hg).trans h.f1, Nat.lt_of_lt_of_le h.lt hb.size⟩
theorem Bx2.on (h : Bx2 v g x0 x1) (hb : Below v.heap.size v v') : Bx2 v' g x0 x1 := h.below hb h.lt
theorem Bx2.far (h : Bx2 v g x0 x1) (p : Addr) (u : Value) (hp : p.block ≠ g) : Bx2 (v.setCell p u) g x0 x1 :=
  ⟨(World.cell?_setCell_far v p ⟨g, 0, none⟩ u hp).trans h.c0, (World.cell?_setCell_far v p ⟨g, 1, none⟩ u hp).trans h.c1, by rw [World.frozen?_setCell]; exact h.f0, by rw [World.frozen?_setCell]; exact h.f1, by have := h.lt; simpa using this⟩
theorem Bx2.set0 (h : Bx2 v g x0 x1) (y : Value) : Bx2 (v.setCell ⟨g, 0, none⟩ y) g y x1 := by
  have n01 : (⟨g, 0, none⟩ : Addr) ≠ ⟨g, 1, none⟩ := by simp
  exact ⟨World.cell?_setCell_same _ _ _ h.c0, (World.cell?_setCell_other _ _ _ _ n01).trans h.c1, by rw [World.frozen?_setCell]; exact h.f0, by rw [World.frozen?_setCell]; exact h.f1, by have := h.lt; simpa using this⟩
theorem Bx2.set1 (h : Bx2 v g x0 x1) (y : Value) : Bx2 (v.setCell ⟨g, 1, none⟩ y) g x0 y := by
  have n10 : (⟨g, 1, none⟩ : Addr) ≠ ⟨g, 0, none⟩ := by simp
  exact ⟨(World.cell?_setCell_other _ _ _ _ n10).trans h.c0, World.cell?_setCell_same _ _ _ h.c1, by rw [World.frozen?_setCell]; exact h.f0, by rw [World.frozen?_setCell]; exact h.f1, by have := h.lt; simpa using this⟩
end

theorem maxz9' {P : Program} {n : Int} (ts : Array TypeId) (ty : TypeId) (W : World) : (Builtin.max_ ts ty #[.int .i64 n, .int .i64 0]).run P W = .ok (.int .i64 ((n.toNat : Nat) : Int)) W := by
  rw [run_max_int2]
  have e : (if (0 : Int) > n then (0 : Int) else n) = ((n.toNat : Nat) : Int) := by split <;> omega
  rw [e]
theorem minz9 {P : Program} {a b k : Nat} (h : min a b = k) (ts : Array TypeId) (ty : TypeId) (W : World) : (Builtin.min_ ts ty #[.int .i64 (a : Int), .int .i64 (b : Int)]).run P W = .ok (.int .i64 (k : Int)) W := by
  rw [run_min_int2]
  have e : (if (b : Int) < (a : Int) then (b : Int) else (a : Int)) = (k : Int) := by split <;> omega
  rw [e]
/-- The place of a byte. -/
def whr (s : ByteArray) (at_ : Int) : Nat × Nat := posl ((bs9 s).take (min at_.toNat s.size))
def pv10 (p : Nat × Nat) : Value := .agg #[.int .i64 (p.1 : Int), .int .i64 (p.2 : Int)]

set_option maxHeartbeats 4000000 in
set_option maxRecDepth 100000 in
theorem where_any (s : ByteArray) (n : Int) (w : World) (hs : s.size ≤ 1000000) : Calls Tryd.prog 9 #[.string s, .int .i64 n] w (Ret9 w (pv10 (whr s n))) := by
  obtain ⟨k, hk⟩ : ∃ k, min n.toNat s.size = k := ⟨_, rfl⟩
  have hks : k ≤ s.size := by omega
  have em0 : min (max n 0) (s.size : Int) = (k : Int) := by omega
  obtain ⟨p, hp⟩ : ∃ p, whr s n = p := ⟨_, rfl⟩
  have HP : Hid (posl ((bs9 s).take k) = p) := by show _ = _; rw [← hp]; unfold whr; rw [hk]
  rw [hp]
  clear hk hp
  go_enter Tryd.func9, Tryd.ntmps9
  go_wp2_with fail
  go_loopw [5, 6, 14] (fun lv fv iv wr => ∃ L f i : Nat, lv = .int .i64 L ∧ fv = .int .i64 f ∧ iv = .int .i64 i ∧ i ≤ k ∧ f ≤ i ∧ L ≤ i + 1 ∧ posl ((bs9 s).take i) = (L, i - f + 1) ∧ wr = w.alloc (.cells #[.int .i64 0, .int .i64 0] 23)) (fun _ _ iv _ => k - (intOf iv).toNat)
  case atStart => exact ⟨1, 0, 0, rfl, rfl, rfl, Nat.zero_le _, Nat.le_refl _, by omega, rfl, rfl⟩
  case round =>
    obtain ⟨L, f, i, rfl, rfl, rfl, hi, hf, hL, hz, rfl⟩ := hrel
    have HG := Lib.hid hz
    clear hz
    rcases Nat.lt_or_ge i k with hlt | hge
    · have his : i < s.size := by omega
      obtain ⟨x, hx⟩ : ∃ x, x = (s[i]'his).toNat := ⟨_, rfl⟩
      have ex : ((s[i]'his).toNat : Int) = (x : Int) := by rw [hx]
      have hst := posl_step (l := bs9 s) (i := i) (x := x) (by rw [bs9_at s i his, hx])
      rw [HG.out] at hst
      clear hx
      by_cases h10 : x = 10
      · have d : ((x : Int) == 10) = true := by rw [h10]; rfl
        have E : Hid (posl ((bs9 s).take (i + 1)) = (L + 1, i + 1 - (i + 1) + 1)) := by show _ = _; rw [hst, stp10, if_pos h10, Nat.sub_self]
        clear hst h10
        go_wp2_with fail
        go_roundw
        case rel => exact ⟨L + 1, i + 1, i + 1, by go_num, by go_num, by go_num, by omega, by omega, by omega, E.out, trivial⟩
        case measure => simp [intOf]; omega
      · have d : ((x : Int) == 10) = false := by rw [beq_eq_false_iff_ne]; omega
        have E : Hid (posl ((bs9 s).take (i + 1)) = (L, i + 1 - f + 1)) := by show _ = _; rw [hst, stp10, if_neg h10, show i - f + 1 + 1 = i + 1 - f + 1 by omega]
        clear hst h10
        go_wp2_with fail
        go_roundw
        case rel => exact ⟨L, f, i + 1, rfl, rfl, by go_num, by omega, by omega, by omega, E.out, trivial⟩
        case measure => simp [intOf]; omega
    · obtain rfl : i = k := by omega
      have em : (i : Int) - (f : Int) = ((i - f : Nat) : Int) := by omega
      obtain ⟨c, hc⟩ : ∃ c, i - f = c := ⟨_, rfl⟩
      rw [hc] at em
      have E : Hid (p = (L, c + 1)) := by show _ = _; rw [← HP.out, HG.out, hc]
      have hcs : c ≤ 1000000 := by omega
      clear hc
      go_wp2_with fail
      exact bodyPost_ret (v := pv10 (L, c + 1)) (by simp [results, Tryd.results9, go_sem, pv10]) rfl ⟨by rw [E.out], (Below.refl _ _).alloc (Nat.le_refl _) _⟩

end Go.Proofs.YthpoplgejenpgaaDoor
