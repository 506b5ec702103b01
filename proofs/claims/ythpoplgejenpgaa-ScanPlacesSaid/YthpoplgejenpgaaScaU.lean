/-
  ScanPlaces answers true.
-/
import Derived.Test.YthpoplgejenpgaaScaL
set_option linter.unusedVariables false
set_option linter.unusedSimpArgs false
namespace Go.Proofs.Ythpoplgejenpgaa
open Go.RowKit

theorem whr_at {s : ByteArray} {k : Nat} (h : k ≤ s.size) : whr s (k : Int) = posl ((bs9 s).take k) := by
  unfold whr; rw [Int.toNat_natCast, Nat.min_eq_left h]
theorem whr_nil (n : Int) : whr ⟨#[]⟩ n = (1, 1) := by
  unfold whr
  rw [show (ByteArray.size ⟨#[]⟩) = 0 from rfl, Nat.min_zero]; rfl



def pl00T : List Row3 := [(some 80, none, .fieldAddr 30 (.tmp 5) 1), (some 81, none, .load 3 (.tmp 80)), (some 82, none, .move (.tmp 8)), (some 83, none, .call { callee := .builtin .len, args := #[.tmp 82], argTypes := #[9] }), (some 84, none, .binOp .gtr 3 (.tmp 81) (.tmp 83) 3), (some 85, none, .move (.tmp 84)), (some 86, some (5, false), .move (.tmp 8)), (some 87, some (5, false), .fieldAddr 30 (.tmp 5) 1), (some 88, some (5, false), .load 3 (.tmp 87)), (some 89, some (5, false), .binOp .sub 3 (.tmp 88) (.const (.int .i64 1)) 3), (some 90, some (5, false), .index 9 (.tmp 86) (.tmp 89)), (some 91, some (5, false), .move (.tmp 0)), (some 92, some (5, false), .move (.tmp 1)), (some 93, some (5, false), .index 9 (.tmp 91) (.tmp 92)), (some 94, some (5, false), .binOp .eql 5 (.tmp 90) (.tmp 93) 5), (some 95, none, .pick (.tmp 85) (.const (.bool true)) (.tmp 94)), (some 96, none, .move (.tmp 95)), (some 97, some (16, true), .call { callee := .value (.func 6), args := #[], argTypes := #[] }), (some 98, none, .pick (.tmp 96) (.tmp 97) (.const (.bool false))), (some 4, none, .assign (.tmp 98))]
set_option maxRecDepth 100000 in
theorem pl00Row : (opsAt Try.prog 5 14).toList.map row3 = pl00T := by kernel_rfl
theorem pl00Sel : Region.noSelect (opsAt Try.prog 5 14) = true := by kernel_rfl
theorem pl00Done : Region.ready .any (opsAt Try.prog 5 14) (upto (opsAt Try.prog 5 14).size (opsAt Try.prog 5 14).size []) = [] := by kernel_rfl
theorem pl00still0 : [(0, [], 0), (1, [], 1), (2, [], 2), (3, [], 3), (4, [], 4), (5, [], 5), (6, [], 6), (7, [], 7), (8, [], 8), (9, [], 9)].all (stillB (opsAt Try.prog 5 14)) = true := by kernel_rfl
theorem pl00still1 : [(10, [], 10), (11, [], 11), (12, [], 12), (13, [], 13), (14, [], 14), (15, [], 15), (16, [], 16), (18, [], 18), (19, [], 19)].all (stillB (opsAt Try.prog 5 14)) = true := by kernel_rfl
theorem pl00sole0 : [(17, [], 17)].all (soleB (opsAt Try.prog 5 14)) = true := by kernel_rfl
theorem pl00R : Reg (opsAt Try.prog 5 14) pl00T [(0, [], 0), (1, [], 1), (2, [], 2), (3, [], 3), (4, [], 4), (5, [], 5), (6, [], 6), (7, [], 7), (8, [], 8), (9, [], 9), (10, [], 10), (11, [], 11), (12, [], 12), (13, [], 13), (14, [], 14), (15, [], 15), (16, [], 16), (18, [], 18), (19, [], 19)] [(17, [], 17)] := ⟨pl00Row, pl00Sel, (all_parts pl00still0 (all_parts pl00still1 (fun k h => by cases h))), (all_parts pl00sole0 (fun k h => by cases h)), pl00Done⟩

def pl01T : List Row3 := [(some 80, none, .fieldAddr 30 (.tmp 5) 1), (some 81, none, .load 3 (.tmp 80)), (some 82, none, .move (.tmp 8)), (some 83, none, .call { callee := .builtin .len, args := #[.tmp 82], argTypes := #[9] }), (some 84, none, .binOp .gtr 3 (.tmp 81) (.tmp 83) 3), (some 85, none, .move (.tmp 84)), (some 86, some (5, false), .move (.tmp 8)), (some 87, some (5, false), .fieldAddr 30 (.tmp 5) 1), (some 88, some (5, false), .load 3 (.tmp 87)), (some 89, some (5, false), .binOp .sub 3 (.tmp 88) (.const (.int .i64 1)) 3), (some 90, some (5, false), .index 9 (.tmp 86) (.tmp 89)), (some 91, some (5, false), .move (.tmp 0)), (some 92, some (5, false), .move (.tmp 1)), (some 93, some (5, false), .index 9 (.tmp 91) (.tmp 92)), (some 94, some (5, false), .binOp .eql 5 (.tmp 90) (.tmp 93) 5), (some 95, none, .pick (.tmp 85) (.const (.bool true)) (.tmp 94)), (some 96, none, .move (.tmp 95)), (some 97, some (16, true), .call { callee := .value (.func 6), args := #[], argTypes := #[] }), (some 98, none, .pick (.tmp 96) (.tmp 97) (.const (.bool false))), (some 4, none, .assign (.tmp 98))]
set_option maxRecDepth 100000 in
theorem pl01Row : (opsAt Try.prog 5 14).toList.map row3 = pl01T := by kernel_rfl
theorem pl01Sel : Region.noSelect (opsAt Try.prog 5 14) = true := by kernel_rfl
theorem pl01Done : Region.ready .any (opsAt Try.prog 5 14) (upto (opsAt Try.prog 5 14).size (opsAt Try.prog 5 14).size []) = [] := by kernel_rfl
theorem pl01still0 : [(0, [], 0), (1, [], 1), (2, [], 2), (3, [], 3), (4, [], 4), (5, [], 5), (6, [], 6), (7, [], 7), (8, [], 8), (9, [], 9)].all (stillB (opsAt Try.prog 5 14)) = true := by kernel_rfl
theorem pl01still1 : [(10, [], 10), (11, [], 11), (12, [], 12), (13, [], 13), (14, [], 14), (15, [], 15), (16, [], 16), (18, [], 18), (19, [], 19)].all (stillB (opsAt Try.prog 5 14)) = true := by kernel_rfl
theorem pl01sole0 : [(17, [], 17)].all (soleB (opsAt Try.prog 5 14)) = true := by kernel_rfl
theorem pl01R : Reg (opsAt Try.prog 5 14) pl01T [(0, [], 0), (1, [], 1), (2, [], 2), (3, [], 3), (4, [], 4), (5, [], 5), (6, [], 6), (7, [], 7), (8, [], 8), (9, [], 9), (10, [], 10), (11, [], 11), (12, [], 12), (13, [], 13), (14, [], 14), (15, [], 15), (16, [], 16), (18, [], 18), (19, [], 19)] [(17, [], 17)] := ⟨pl01Row, pl01Sel, (all_parts pl01still0 (all_parts pl01still1 (fun k h => by cases h))), (all_parts pl01sole0 (fun k h => by cases h)), pl01Done⟩

def pl10T : List Row3 := [(some 80, none, .fieldAddr 30 (.tmp 5) 1), (some 81, none, .load 3 (.tmp 80)), (some 82, none, .move (.tmp 8)), (some 83, none, .call { callee := .builtin .len, args := #[.tmp 82], argTypes := #[9] }), (some 84, none, .binOp .gtr 3 (.tmp 81) (.tmp 83) 3), (some 85, none, .move (.tmp 84)), (some 86, some (5, false), .move (.tmp 8)), (some 87, some (5, false), .fieldAddr 30 (.tmp 5) 1), (some 88, some (5, false), .load 3 (.tmp 87)), (some 89, some (5, false), .binOp .sub 3 (.tmp 88) (.const (.int .i64 1)) 3), (some 90, some (5, false), .index 9 (.tmp 86) (.tmp 89)), (some 91, some (5, false), .move (.tmp 0)), (some 92, some (5, false), .move (.tmp 1)), (some 93, some (5, false), .index 9 (.tmp 91) (.tmp 92)), (some 94, some (5, false), .binOp .eql 5 (.tmp 90) (.tmp 93) 5), (some 95, none, .pick (.tmp 85) (.const (.bool true)) (.tmp 94)), (some 96, none, .move (.tmp 95)), (some 97, some (16, true), .call { callee := .value (.func 6), args := #[], argTypes := #[] }), (some 98, none, .pick (.tmp 96) (.tmp 97) (.const (.bool false))), (some 4, none, .assign (.tmp 98))]
set_option maxRecDepth 100000 in
theorem pl10Row : (opsAt Try.prog 5 14).toList.map row3 = pl10T := by kernel_rfl
theorem pl10Sel : Region.noSelect (opsAt Try.prog 5 14) = true := by kernel_rfl
theorem pl10Done : Region.ready .any (opsAt Try.prog 5 14) (upto (opsAt Try.prog 5 14).size (opsAt Try.prog 5 14).size []) = [] := by kernel_rfl
theorem pl10still0 : [(0, [], 0), (1, [], 1), (2, [], 2), (3, [], 3), (4, [], 4), (5, [], 5), (6, [], 6), (7, [], 7), (8, [], 8), (9, [], 9)].all (stillB (opsAt Try.prog 5 14)) = true := by kernel_rfl
theorem pl10still1 : [(10, [], 10), (11, [], 11), (12, [], 12), (13, [], 13), (14, [], 14), (15, [], 15), (16, [], 16), (18, [], 18), (19, [], 19)].all (stillB (opsAt Try.prog 5 14)) = true := by kernel_rfl
theorem pl10sole0 : [(17, [], 17)].all (soleB (opsAt Try.prog 5 14)) = true := by kernel_rfl
theorem pl10R : Reg (opsAt Try.prog 5 14) pl10T [(0, [], 0), (1, [], 1), (2, [], 2), (3, [], 3), (4, [], 4), (5, [], 5), (6, [], 6), (7, [], 7), (8, [], 8), (9, [], 9), (10, [], 10), (11, [], 11), (12, [], 12), (13, [], 13), (14, [], 14), (15, [], 15), (16, [], 16), (18, [], 18), (19, [], 19)] [(17, [], 17)] := ⟨pl10Row, pl10Sel, (all_parts pl10still0 (all_parts pl10still1 (fun k h => by cases h))), (all_parts pl10sole0 (fun k h => by cases h)), pl10Done⟩

def pl11T : List Row3 := [(some 80, none, .fieldAddr 30 (.tmp 5) 1), (some 81, none, .load 3 (.tmp 80)), (some 82, none, .move (.tmp 8)), (some 83, none, .call { callee := .builtin .len, args := #[.tmp 82], argTypes := #[9] }), (some 84, none, .binOp .gtr 3 (.tmp 81) (.tmp 83) 3), (some 85, none, .move (.tmp 84)), (some 86, some (5, false), .move (.tmp 8)), (some 87, some (5, false), .fieldAddr 30 (.tmp 5) 1), (some 88, some (5, false), .load 3 (.tmp 87)), (some 89, some (5, false), .binOp .sub 3 (.tmp 88) (.const (.int .i64 1)) 3), (some 90, some (5, false), .index 9 (.tmp 86) (.tmp 89)), (some 91, some (5, false), .move (.tmp 0)), (some 92, some (5, false), .move (.tmp 1)), (some 93, some (5, false), .index 9 (.tmp 91) (.tmp 92)), (some 94, some (5, false), .binOp .eql 5 (.tmp 90) (.tmp 93) 5), (some 95, none, .pick (.tmp 85) (.const (.bool true)) (.tmp 94)), (some 96, none, .move (.tmp 95)), (some 97, some (16, true), .call { callee := .value (.func 6), args := #[], argTypes := #[] }), (some 98, none, .pick (.tmp 96) (.tmp 97) (.const (.bool false))), (some 4, none, .assign (.tmp 98))]
set_option maxRecDepth 100000 in
theorem pl11Row : (opsAt Try.prog 5 14).toList.map row3 = pl11T := by kernel_rfl
theorem pl11Sel : Region.noSelect (opsAt Try.prog 5 14) = true := by kernel_rfl
theorem pl11Done : Region.ready .any (opsAt Try.prog 5 14) (upto (opsAt Try.prog 5 14).size (opsAt Try.prog 5 14).size []) = [] := by kernel_rfl
theorem pl11still0 : [(0, [], 0), (1, [], 1), (2, [], 2), (3, [], 3), (4, [], 4), (5, [], 5), (6, [], 6), (7, [], 7), (8, [], 8), (9, [], 9)].all (stillB (opsAt Try.prog 5 14)) = true := by kernel_rfl
theorem pl11still1 : [(10, [], 10), (11, [], 11), (12, [], 12), (13, [], 13), (14, [], 14), (15, [], 15), (16, [], 16), (18, [], 18), (19, [], 19)].all (stillB (opsAt Try.prog 5 14)) = true := by kernel_rfl
theorem pl11sole0 : [(17, [], 17)].all (soleB (opsAt Try.prog 5 14)) = true := by kernel_rfl
theorem pl11R : Reg (opsAt Try.prog 5 14) pl11T [(0, [], 0), (1, [], 1), (2, [], 2), (3, [], 3), (4, [], 4), (5, [], 5), (6, [], 6), (7, [], 7), (8, [], 8), (9, [], 9), (10, [], 10), (11, [], 11), (12, [], 12), (13, [], 13), (14, [], 14), (15, [], 15), (16, [], 16), (18, [], 18), (19, [], 19)] [(17, [], 17)] := ⟨pl11Row, pl11Sel, (all_parts pl11still0 (all_parts pl11still1 (fun k h => by cases h))), (all_parts pl11sole0 (fun k h => by cases h)), pl11Done⟩

/-- The byte that is asked. -/
theorem ask10 (s : ByteArray) (n : Int) (h : 0 < s.size) : ∃ k : Nat, (IntKind.u64.wrap n).tmod (s.size : Int) = (k : Int) ∧ k < s.size := by
  have h0 : 0 ≤ IntKind.u64.wrap n := wrap_u64_nonneg n
  generalize IntKind.u64.wrap n = m at h0 ⊢
  rw [Int.tmod_eq_emod_of_nonneg h0]
  refine ⟨(m % (s.size : Int)).toNat, ?_, ?_⟩
  · rw [Int.toNat_of_nonneg (Int.emod_nonneg _ (by omega))]
  · have := Int.emod_lt_of_pos m (show (0 : Int) < (s.size : Int) by omega)
    have := Int.emod_nonneg m (show (s.size : Int) ≠ 0 by omega)
    omega

set_option maxHeartbeats 1000000 in
set_option maxRecDepth 100000 in
theorem places10_law (s : ByteArray) (n : Int) (w : World) : Calls Try.prog 5 #[.string s, .int .i64 n] w (Ret9 w (.bool true)) := by
  have E : Hid (Below w.heap.size w w) := Below.refl _ _
  by_cases hs : 600 < s.size ∨ s.size = 0
  case pos =>
    have F : Hid (whr ⟨#[]⟩ n = (1, 1)) := whr_nil n
    have d : (decide ((600 : Int) < (s.size : Int)) = true) ∨ (decide ((600 : Int) < (s.size : Int)) = false ∧ ((s.size : Int) == 0) = true) := by
      rcases hs with h | h
      · exact .inl (decide_eq_true (by omega))
      · exact .inr ⟨decide_eq_false (by omega), by rw [beq_iff_eq]; omega⟩
    clear hs
    rcases d with d | ⟨d, d2⟩
    all_goals
      go_enter Try.func5, Try.ntmps5
      go_wp2_with fail
      refine (where_is F.out (by decide)).mono ?_; rintro e w1 ⟨rfl, hb⟩; replace E := Lib.hid (E.out.trans (hb.mono E.out.size)); clear hb
      go_wp2_with fail
      refine (awake10 _).mono ?_; rintro e w2 ⟨rfl, hb⟩; replace E := Lib.hid (E.out.trans (hb.mono E.out.size)); clear hb
      go_wp2_with fail
      go_ret
      exact ⟨rfl, E.out⟩
  have d1 : decide ((600 : Int) < (s.size : Int)) = false := decide_eq_false (by omega)
  have d2 : ((s.size : Int) == 0) = false := by rw [beq_eq_false_iff_ne]; omega
  have hsp : 0 < s.size := by omega
  have hs6 : s.size ≤ 600 := by omega
  have hs1 : s.size ≤ 1000000 := by omega
  clear hs
  obtain ⟨k, hk, hks⟩ := ask10 s n hsp
  obtain ⟨x, hx⟩ : ∃ x, x = (s[k]'hks).toNat := ⟨_, rfl⟩
  have ex : ((s[k]'hks).toNat : Int) = (x : Int) := by rw [hx]
  obtain ⟨p, hp⟩ : ∃ p, posl ((bs9 s).take k) = p := ⟨_, rfl⟩
  have F1 : Hid (whr s (k : Int) = p) := by show _ = _; rw [whr_at (Nat.le_of_lt hks), hp]
  have hx2 : (bs9 s)[k]? = some x := by rw [bs9_at s k hks, hx]
  have F2 : Hid (whr s ((k : Int) + 1) = stp10 p x) := by show _ = _; rw [show (k : Int) + 1 = ((k + 1 : Nat) : Int) from rfl, whr_at hks, posl_step hx2, hp]
  obtain ⟨g1, g2, g3, g4⟩ := place_byte hx2
  rw [hp] at g1 g2 g3 g4
  clear hx hp
  obtain ⟨L, C⟩ := p
  simp only at g1 g2 g3 g4
  have hCk : C ≤ 1000000 := by
    have := (pos_bgn (bs9 s) (i := k) (by rw [bs9_len]; omega)).2.2.1
    have h2 := F1.out
    rw [whr_at (Nat.le_of_lt hks)] at h2
    rw [h2] at this; simp only at this; omega
  obtain ⟨m, rfl⟩ : ∃ m, L = m + 1 := ⟨L - 1, by omega⟩
  obtain ⟨r, rfl⟩ : ∃ r, C = r + 1 := ⟨C - 1, by omega⟩
  obtain ⟨N, hN⟩ : ∃ N, (lns s).length = N := ⟨_, rfl⟩
  have hm6 : m + 1 ≤ N := by rw [← hN]; exact g1
  have hN6 : N ≤ 600 := by have := lns_len s; omega
  have G1 : Hid (m < (lns s).length) := by show _ < _; omega
  have HN := Lib.hid hN
  have HTB : Hid (∀ t ∈ lns s, ∀ c ∈ t, c < 256) := lns_lt s
  have G4 : Hid (∀ t, (lns s)[m]? = some t → r + 1 ≤ t.length → t[r]? = some x) := g4
  have dn : decide ((N : Int) < (m : Int) + 1) = false := decide_eq_false (by omega)
  have dm : decide ((m : Int) + 1 < 1) = false := decide_eq_false (by omega)
  have dr : decide ((r : Int) + 1 < 1) = false := decide_eq_false (by omega)
  have hsx : (s[k]'hks).toNat = x := by have := bs9_at s k hks; rw [hx2] at this; exact (Option.some.inj this).symm
  clear g1 g2 g3 g4 hx2 hs6 hN hsp
  by_cases h10 : x = 10
  case pos =>
    have d : ((x : Int) == 10) = true := by rw [h10]; rfl
    have F3 : Hid (whr s ((k : Int) + 1) = (m + 1 + 1, 1)) := by show _ = _; rw [F2.out, stp10, if_pos h10]
    clear F2 h10
    go_enter Try.func5, Try.ntmps5
    go_wp2_with fail
    refine (where_is F1.out hs1).mono ?_; rintro e w1 ⟨rfl, hb⟩; replace E := Lib.hid (E.out.trans (hb.mono E.out.size)); clear hb
    go_wp2_with fail
    refine (where_is F3.out hs1).mono ?_; rintro e w2 ⟨rfl, hb⟩; replace E := Lib.hid (E.out.trans (hb.mono E.out.size)); clear hb
    go_wp2_with fail
    generalize hW : World.alloc (World.alloc w2 _) _ = W0
    have P0 : Hid (Bx2 W0 w2.heap.size (.int .i64 ((m : Int) + 1)) (.int .i64 ((r : Int) + 1))) := by show Bx2 _ _ _ _; rw [← hW]; exact (Bx2.newAt _ _ _ _ rfl).on ((Below.refl _ _).alloc (Nat.le_refl _) _)
    have E0 : Hid (Below w.heap.size w W0) := by show Below _ _ _; rw [← hW]; exact (E.out.alloc E.out.size _).alloc (by have := E.out.size; simp; omega) _
    clear hW E
    refine (lines_any s _ hs1).mono ?_; rintro e w3 ⟨v, rfl, hown, hb⟩
    obtain ⟨A, c, rfl, h⟩ := hown.rd
    obtain ⟨b, rfl, h1, h2, h3, h4, h5⟩ := h.at_ G1.out
    have P3 := Lib.hid (P0.out.on hb)
    have E := Lib.hid (E0.out.trans (hb.mono E0.out.size))
    clear h hown hb P0 E0 h4
    rw [HN.out] at h1 ⊢
    obtain ⟨T, hT⟩ : ∃ T, (lns s).getD m [] = T := ⟨_, rfl⟩
    rw [hT] at h5
    have hTs : (lns s)[m]? = some T := by rw [← hT, List.getD_eq_getElem?_getD, List.getElem?_eq_getElem G1.out]; rfl
    have hTm : T ∈ lns s := List.mem_of_getElem? hTs
    obtain ⟨Y, hY⟩ : ∃ Y, st9 T = Y := ⟨_, rfl⟩
    have hYb : bs9 Y = T := by rw [← hY]; exact bs9_st9 (HTB.out T hTm)
    have hYs : Y.size = T.length := by rw [← bs9_len, hYb]
    have G5 : Hid (r < Y.size → (bs9 Y)[r]? = some x) := fun h => by rw [hYb]; exact G4.out T hTs (by omega)
    rw [hY] at h5
    obtain ⟨p0, p1, pf0, pf1, plt⟩ := P3.out
    clear hT hTs hTm hY hYb hYs G4
    rcases Nat.lt_or_ge r Y.size with hr | hr
    · have hyx : (Y[r]'hr).toNat = x := by have := G5.out hr; rw [bs9_at Y r hr] at this; exact Option.some.inj this
      have ey : ((Y[r]'hr).toNat : Int) = (x : Int) := by rw [hyx]
      have d5 : decide ((Y.size : Int) < (r : Int) + 1) = false := decide_eq_false (by omega)
      have d6 : decide (Y.size < r + 1) = false := decide_eq_false (by omega)
      have d7 : decide (Y.size ≤ r) = false := decide_eq_false (by omega)
      have u1 : (r : Int) + 1 - 1 = (r : Int) := by omega
      have u2 : IntKind.i64.wrap ((r : Int) + 1 - 1) = (r : Int) := by rw [u1]; exact IntWalk.i64_in _ ⟨by omega, by omega⟩
      have u3 : IntKind.i64.wrap (r : Int) = (r : Int) := IntWalk.i64_in _ ⟨by omega, by omega⟩
      have u4 : (0 : Int) ≤ (r : Int) := by omega
      have u5 : (r : Int) < (Y.size : Int) := by omega
      have u6 : ((r : Int)).toNat = r := rfl
      clear G5
      go_wp2_with fail
      rename_i K hK
      refine line_start (ops := opsAt Try.prog 5 14) (S := fun v : World => v.cell? ⟨w2.heap.size, 1, none⟩ = some (.int .i64 ((r : Int) + 1))) (by kernel_rfl) (by kernel_rfl) (P3.out.c1) ?_
      have hSw : (fun v : World => v.cell? ⟨w2.heap.size, 1, none⟩ = some (.int .i64 ((r : Int) + 1))) w3.drew := P3.out.c1
      generalize hA : Act.mk _ _ = a
      have ha : Fr 99 a [(0, .string s), (1, .int .i64 (k : Int)), (5, .pointer (some ⟨w2.heap.size, 0, none⟩)), (8, .string Y)] := by rw [← hA]; exact ⟨rfl, rfl, by intro q hq; simp at hq; rcases hq with rfl | rfl | rfl | rfl <;> rfl⟩
      clear hA
      refine line_still pl00R 0 0 [] 80 (.pointer (some ⟨w2.heap.size, 1, none⟩)) [(0, .string s), (1, .int .i64 (k : Int)), (5, .pointer (some ⟨w2.heap.size, 0, none⟩)), (8, .string Y)] rfl (by decide) (by decide) (by decide) ha (fun o ho hg => y_of (wanted_none hg) (fun wx hS => e_fieldP ho (.inr rfl) (ha.ev (i := 5) (v := .pointer (some ⟨w2.heap.size, 0, none⟩)) (by simp)))) (by simp) hSw ?_; intro a ha
      refine line_still pl00R 1 1 [] 81 (.int .i64 ((r : Int) + 1)) [(0, .string s), (1, .int .i64 (k : Int)), (5, .pointer (some ⟨w2.heap.size, 0, none⟩)), (8, .string Y)] rfl (by decide) (by decide) (by decide) ha (fun o ho hg => y_of (wanted_none hg) (fun wx hS => e_cellI ho (ha.ev (i := 80) (v := .pointer (some ⟨w2.heap.size, 1, none⟩)) (by simp)) hS)) (by simp) hSw ?_; intro a ha
      refine line_still pl00R 2 2 [] 82 (.string Y) [(81, .int .i64 ((r : Int) + 1)), (0, .string s), (1, .int .i64 (k : Int)), (5, .pointer (some ⟨w2.heap.size, 0, none⟩)), (8, .string Y)] rfl (by decide) (by decide) (by decide) ha (fun o ho hg => y_of (wanted_none hg) (fun wx hS => e_move (.inl ho) (ha.ev (i := 8) (v := .string Y) (by simp)))) (by simp) hSw ?_; intro a ha
      refine line_still pl00R 3 3 [] 83 (.int .i64 (Y.size : Int)) [(81, .int .i64 ((r : Int) + 1)), (0, .string s), (1, .int .i64 (k : Int)), (5, .pointer (some ⟨w2.heap.size, 0, none⟩)), (8, .string Y)] rfl (by decide) (by decide) (by decide) ha (fun o ho hg => y_of (wanted_none hg) (fun wx hS => e_slenS ho (ha.ev (i := 82) (v := .string Y) (by simp)))) (by simp) hSw ?_; intro a ha
      refine line_still pl00R 4 4 [] 84 (.bool false) [(0, .string s), (1, .int .i64 (k : Int)), (5, .pointer (some ⟨w2.heap.size, 0, none⟩)), (8, .string Y)] rfl (by decide) (by decide) (by decide) ha (fun o ho hg => y_of (wanted_none hg) (fun wx hS => e_gtrI d5 ho (ha.ev (i := 81) (v := .int .i64 ((r : Int) + 1)) (by simp)) (ha.ev (i := 83) (v := .int .i64 (Y.size : Int)) (by simp)))) (by simp) hSw ?_; intro a ha
      refine line_still pl00R 5 5 [] 85 (.bool false) [(0, .string s), (1, .int .i64 (k : Int)), (5, .pointer (some ⟨w2.heap.size, 0, none⟩)), (8, .string Y)] rfl (by decide) (by decide) (by decide) ha (fun o ho hg => y_of (wanted_none hg) (fun wx hS => e_move (.inl ho) (ha.ev (i := 84) (v := .bool false) (by simp)))) (by simp) hSw ?_; intro a ha
      refine line_still pl00R 6 6 [] 86 (.string Y) [(85, .bool false), (0, .string s), (1, .int .i64 (k : Int)), (5, .pointer (some ⟨w2.heap.size, 0, none⟩))] rfl (by decide) (by decide) (by decide) ha (fun o ho hg => y_of (pl00R.wanted hg rfl ha (d := 85) (by simp)) (fun wx hS => e_move (.inl ho) (ha.ev (i := 8) (v := .string Y) (by simp)))) (by simp) hSw ?_; intro a ha
      refine line_still pl00R 7 7 [] 87 (.pointer (some ⟨w2.heap.size, 1, none⟩)) [(86, .string Y), (85, .bool false), (0, .string s), (1, .int .i64 (k : Int))] rfl (by decide) (by decide) (by decide) ha (fun o ho hg => y_of (pl00R.wanted hg rfl ha (d := 85) (by simp)) (fun wx hS => e_fieldP ho (.inr rfl) (ha.ev (i := 5) (v := .pointer (some ⟨w2.heap.size, 0, none⟩)) (by simp)))) (by simp) hSw ?_; intro a ha
      refine line_still pl00R 8 8 [] 88 (.int .i64 ((r : Int) + 1)) [(86, .string Y), (85, .bool false), (0, .string s), (1, .int .i64 (k : Int))] rfl (by decide) (by decide) (by decide) ha (fun o ho hg => y_of (pl00R.wanted hg rfl ha (d := 85) (by simp)) (fun wx hS => e_cellI ho (ha.ev (i := 87) (v := .pointer (some ⟨w2.heap.size, 1, none⟩)) (by simp)) hS)) (by simp) hSw ?_; intro a ha
      refine line_still pl00R 9 9 [] 89 (.int .i64 (r : Int)) [(86, .string Y), (85, .bool false), (0, .string s), (1, .int .i64 (k : Int))] rfl (by decide) (by decide) (by decide) ha (fun o ho hg => y_of (pl00R.wanted hg rfl ha (d := 85) (by simp)) (fun wx hS => e_subI (by omega) ⟨by omega, by omega⟩ ho (ha.ev (i := 88) (v := .int .i64 ((r : Int) + 1)) (by simp)) rfl)) (by simp) hSw ?_; intro a ha
      refine line_still pl00R 10 10 [] 90 (.int .u8 (x : Int)) [(85, .bool false), (0, .string s), (1, .int .i64 (k : Int))] rfl (by decide) (by decide) (by decide) ha (fun o ho hg => y_of (pl00R.wanted hg rfl ha (d := 85) (by simp)) (fun wx hS => e_idxS hr hyx ho (ha.ev (i := 86) (v := .string Y) (by simp)) (ha.ev (i := 89) (v := .int .i64 (r : Int)) (by simp)))) (by simp) hSw ?_; intro a ha
      refine line_still pl00R 11 11 [] 91 (.string s) [(90, .int .u8 (x : Int)), (85, .bool false), (1, .int .i64 (k : Int))] rfl (by decide) (by decide) (by decide) ha (fun o ho hg => y_of (pl00R.wanted hg rfl ha (d := 85) (by simp)) (fun wx hS => e_move (.inl ho) (ha.ev (i := 0) (v := .string s) (by simp)))) (by simp) hSw ?_; intro a ha
      refine line_still pl00R 12 12 [] 92 (.int .i64 (k : Int)) [(91, .string s), (90, .int .u8 (x : Int)), (85, .bool false)] rfl (by decide) (by decide) (by decide) ha (fun o ho hg => y_of (pl00R.wanted hg rfl ha (d := 85) (by simp)) (fun wx hS => e_move (.inl ho) (ha.ev (i := 1) (v := .int .i64 (k : Int)) (by simp)))) (by simp) hSw ?_; intro a ha
      refine line_still pl00R 13 13 [] 93 (.int .u8 (x : Int)) [(90, .int .u8 (x : Int)), (85, .bool false)] rfl (by decide) (by decide) (by decide) ha (fun o ho hg => y_of (pl00R.wanted hg rfl ha (d := 85) (by simp)) (fun wx hS => e_idxS hks hsx ho (ha.ev (i := 91) (v := .string s) (by simp)) (ha.ev (i := 92) (v := .int .i64 (k : Int)) (by simp)))) (by simp) hSw ?_; intro a ha
      refine line_still pl00R 14 14 [] 94 (.bool true) [(85, .bool false)] rfl (by decide) (by decide) (by decide) ha (fun o ho hg => y_of (pl00R.wanted hg rfl ha (d := 85) (by simp)) (fun wx hS => e_eqU (beq_self_eq_true _) ho (ha.ev (i := 90) (v := .int .u8 (x : Int)) (by simp)) (ha.ev (i := 93) (v := .int .u8 (x : Int)) (by simp)))) (by simp) hSw ?_; intro a ha
      refine line_still pl00R 15 15 [] 95 (.bool true) [] rfl (by decide) (by decide) (by decide) ha (fun o ho hg => y_of (wanted_none hg) (fun wx hS => e_pick ho (ha.ev (i := 85) (v := .bool false) (by simp)) rfl (ha.ev (i := 94) (v := .bool true) (by simp)))) (by simp) hSw ?_; intro a ha
      refine line_still pl00R 16 16 [] 96 (.bool true) [] rfl (by decide) (by decide) (by decide) ha (fun o ho hg => y_of (wanted_none hg) (fun wx hS => e_move (.inl ho) (ha.ev (i := 95) (v := .bool true) (by simp)))) (by simp) hSw ?_; intro a ha
      refine line_call pl00R 17 17 [] 97 (args := #[]) [(96, .bool true)] rfl (by decide) (by decide) (by decide) ha (fun o ho hg => ⟨(pl00R.wanted hg rfl ha (d := 96) (by simp)), e_call8 (by kernel_rfl) ho rfl (by simp)⟩) (by simp) ?_
      refine (awake10 _).mono ?_; rintro e w4 ⟨rfl, hb⟩
      have hSw : (fun v : World => v.cell? ⟨w2.heap.size, 1, none⟩ = some (.int .i64 ((r : Int) + 1))) w4 := by have := P3.out; exact (this.drew.on hb).c1
      replace E := Lib.hid (E.out.drew.trans (hb.mono E.out.drew.size)); clear hb
      refine ⟨_, rfl, hSw, ?_⟩; intro a ha
      refine line_still pl00R 18 18 [] 98 (.bool true) [] rfl (by decide) (by decide) (by decide) ha (fun o ho hg => y_of (wanted_none hg) (fun wx hS => e_pick ho (ha.ev (i := 96) (v := .bool true) (by simp)) (ha.ev (i := 97) (v := .bool true) (by simp)) rfl)) (by simp) hSw ?_; intro a ha
      refine line_still pl00R 19 19 [] 4 (.bool true) [] rfl (by decide) (by decide) (by decide) ha (fun o ho hg => y_of (wanted_none hg) (fun wx hS => e_move (.inr ho) (ha.ev (i := 98) (v := .bool true) (by simp)))) (by simp) hSw ?_; intro a ha
      refine line_end pl00R rfl ?_
      simp only [Exit.then]
      refine hK _ _ ?_
      go_wp2
      exact bodyPost_ret (v := .bool true) (by have := ha.2.2 (4, .bool true) (by simp); simp [results, Try.results5, go_sem, Array.getD_eq_getD_getElem?, this]) ha.2.1 ⟨rfl, E.out⟩
    · have d5 : decide ((Y.size : Int) < (r : Int) + 1) = true := decide_eq_true (by omega)
      clear G5
      go_wp2_with fail
      rename_i K hK
      refine line_start (ops := opsAt Try.prog 5 14) (S := fun v : World => v.cell? ⟨w2.heap.size, 1, none⟩ = some (.int .i64 ((r : Int) + 1))) (by kernel_rfl) (by kernel_rfl) (P3.out.c1) ?_
      have hSw : (fun v : World => v.cell? ⟨w2.heap.size, 1, none⟩ = some (.int .i64 ((r : Int) + 1))) w3.drew := P3.out.c1
      generalize hA : Act.mk _ _ = a
      have ha : Fr 99 a [(0, .string s), (1, .int .i64 (k : Int)), (5, .pointer (some ⟨w2.heap.size, 0, none⟩)), (8, .string Y)] := by rw [← hA]; exact ⟨rfl, rfl, by intro q hq; simp at hq; rcases hq with rfl | rfl | rfl | rfl <;> rfl⟩
      clear hA
      refine line_still pl01R 0 0 [] 80 (.pointer (some ⟨w2.heap.size, 1, none⟩)) [(0, .string s), (1, .int .i64 (k : Int)), (5, .pointer (some ⟨w2.heap.size, 0, none⟩)), (8, .string Y)] rfl (by decide) (by decide) (by decide) ha (fun o ho hg => y_of (wanted_none hg) (fun wx hS => e_fieldP ho (.inr rfl) (ha.ev (i := 5) (v := .pointer (some ⟨w2.heap.size, 0, none⟩)) (by simp)))) (by simp) hSw ?_; intro a ha
      refine line_still pl01R 1 1 [] 81 (.int .i64 ((r : Int) + 1)) [(0, .string s), (1, .int .i64 (k : Int)), (5, .pointer (some ⟨w2.heap.size, 0, none⟩)), (8, .string Y)] rfl (by decide) (by decide) (by decide) ha (fun o ho hg => y_of (wanted_none hg) (fun wx hS => e_cellI ho (ha.ev (i := 80) (v := .pointer (some ⟨w2.heap.size, 1, none⟩)) (by simp)) hS)) (by simp) hSw ?_; intro a ha
      refine line_still pl01R 2 2 [] 82 (.string Y) [(81, .int .i64 ((r : Int) + 1)), (0, .string s), (1, .int .i64 (k : Int)), (5, .pointer (some ⟨w2.heap.size, 0, none⟩)), (8, .string Y)] rfl (by decide) (by decide) (by decide) ha (fun o ho hg => y_of (wanted_none hg) (fun wx hS => e_move (.inl ho) (ha.ev (i := 8) (v := .string Y) (by simp)))) (by simp) hSw ?_; intro a ha
      refine line_still pl01R 3 3 [] 83 (.int .i64 (Y.size : Int)) [(81, .int .i64 ((r : Int) + 1)), (0, .string s), (1, .int .i64 (k : Int)), (5, .pointer (some ⟨w2.heap.size, 0, none⟩)), (8, .string Y)] rfl (by decide) (by decide) (by decide) ha (fun o ho hg => y_of (wanted_none hg) (fun wx hS => e_slenS ho (ha.ev (i := 82) (v := .string Y) (by simp)))) (by simp) hSw ?_; intro a ha
      refine line_still pl01R 4 4 [] 84 (.bool true) [(0, .string s), (1, .int .i64 (k : Int)), (5, .pointer (some ⟨w2.heap.size, 0, none⟩)), (8, .string Y)] rfl (by decide) (by decide) (by decide) ha (fun o ho hg => y_of (wanted_none hg) (fun wx hS => e_gtrI d5 ho (ha.ev (i := 81) (v := .int .i64 ((r : Int) + 1)) (by simp)) (ha.ev (i := 83) (v := .int .i64 (Y.size : Int)) (by simp)))) (by simp) hSw ?_; intro a ha
      refine line_still pl01R 5 5 [] 85 (.bool true) [(0, .string s), (1, .int .i64 (k : Int)), (5, .pointer (some ⟨w2.heap.size, 0, none⟩)), (8, .string Y)] rfl (by decide) (by decide) (by decide) ha (fun o ho hg => y_of (wanted_none hg) (fun wx hS => e_move (.inl ho) (ha.ev (i := 84) (v := .bool true) (by simp)))) (by simp) hSw ?_; intro a ha
      refine line_still pl01R 6 6 [] 86 undef [(85, .bool true), (0, .string s), (1, .int .i64 (k : Int)), (5, .pointer (some ⟨w2.heap.size, 0, none⟩))] rfl (by decide) (by decide) (by decide) ha (fun o ho hg => y_not (pl01R.unwanted hg rfl ha (d := 85) (by simp))) (by simp) hSw ?_; intro a ha
      refine line_still pl01R 7 7 [] 87 undef [(86, undef), (85, .bool true), (0, .string s), (1, .int .i64 (k : Int))] rfl (by decide) (by decide) (by decide) ha (fun o ho hg => y_not (pl01R.unwanted hg rfl ha (d := 85) (by simp))) (by simp) hSw ?_; intro a ha
      refine line_still pl01R 8 8 [] 88 undef [(86, undef), (85, .bool true), (0, .string s), (1, .int .i64 (k : Int))] rfl (by decide) (by decide) (by decide) ha (fun o ho hg => y_not (pl01R.unwanted hg rfl ha (d := 85) (by simp))) (by simp) hSw ?_; intro a ha
      refine line_still pl01R 9 9 [] 89 undef [(86, undef), (85, .bool true), (0, .string s), (1, .int .i64 (k : Int))] rfl (by decide) (by decide) (by decide) ha (fun o ho hg => y_not (pl01R.unwanted hg rfl ha (d := 85) (by simp))) (by simp) hSw ?_; intro a ha
      refine line_still pl01R 10 10 [] 90 undef [(85, .bool true), (0, .string s), (1, .int .i64 (k : Int))] rfl (by decide) (by decide) (by decide) ha (fun o ho hg => y_not (pl01R.unwanted hg rfl ha (d := 85) (by simp))) (by simp) hSw ?_; intro a ha
      refine line_still pl01R 11 11 [] 91 undef [(90, undef), (85, .bool true), (1, .int .i64 (k : Int))] rfl (by decide) (by decide) (by decide) ha (fun o ho hg => y_not (pl01R.unwanted hg rfl ha (d := 85) (by simp))) (by simp) hSw ?_; intro a ha
      refine line_still pl01R 12 12 [] 92 undef [(91, undef), (90, undef), (85, .bool true)] rfl (by decide) (by decide) (by decide) ha (fun o ho hg => y_not (pl01R.unwanted hg rfl ha (d := 85) (by simp))) (by simp) hSw ?_; intro a ha
      refine line_still pl01R 13 13 [] 93 undef [(90, undef), (85, .bool true)] rfl (by decide) (by decide) (by decide) ha (fun o ho hg => y_not (pl01R.unwanted hg rfl ha (d := 85) (by simp))) (by simp) hSw ?_; intro a ha
      refine line_still pl01R 14 14 [] 94 undef [(85, .bool true)] rfl (by decide) (by decide) (by decide) ha (fun o ho hg => y_not (pl01R.unwanted hg rfl ha (d := 85) (by simp))) (by simp) hSw ?_; intro a ha
      refine line_still pl01R 15 15 [] 95 (.bool true) [] rfl (by decide) (by decide) (by decide) ha (fun o ho hg => y_of (wanted_none hg) (fun wx hS => e_pick ho (ha.ev (i := 85) (v := .bool true) (by simp)) rfl (ha.ev (i := 94) (v := undef) (by simp)))) (by simp) hSw ?_; intro a ha
      refine line_still pl01R 16 16 [] 96 (.bool true) [] rfl (by decide) (by decide) (by decide) ha (fun o ho hg => y_of (wanted_none hg) (fun wx hS => e_move (.inl ho) (ha.ev (i := 95) (v := .bool true) (by simp)))) (by simp) hSw ?_; intro a ha
      refine line_call pl01R 17 17 [] 97 (args := #[]) [(96, .bool true)] rfl (by decide) (by decide) (by decide) ha (fun o ho hg => ⟨(pl01R.wanted hg rfl ha (d := 96) (by simp)), e_call8 (by kernel_rfl) ho rfl (by simp)⟩) (by simp) ?_
      refine (awake10 _).mono ?_; rintro e w4 ⟨rfl, hb⟩
      have hSw : (fun v : World => v.cell? ⟨w2.heap.size, 1, none⟩ = some (.int .i64 ((r : Int) + 1))) w4 := by have := P3.out; exact (this.drew.on hb).c1
      replace E := Lib.hid (E.out.drew.trans (hb.mono E.out.drew.size)); clear hb
      refine ⟨_, rfl, hSw, ?_⟩; intro a ha
      refine line_still pl01R 18 18 [] 98 (.bool true) [] rfl (by decide) (by decide) (by decide) ha (fun o ho hg => y_of (wanted_none hg) (fun wx hS => e_pick ho (ha.ev (i := 96) (v := .bool true) (by simp)) (ha.ev (i := 97) (v := .bool true) (by simp)) rfl)) (by simp) hSw ?_; intro a ha
      refine line_still pl01R 19 19 [] 4 (.bool true) [] rfl (by decide) (by decide) (by decide) ha (fun o ho hg => y_of (wanted_none hg) (fun wx hS => e_move (.inr ho) (ha.ev (i := 98) (v := .bool true) (by simp)))) (by simp) hSw ?_; intro a ha
      refine line_end pl01R rfl ?_
      simp only [Exit.then]
      refine hK _ _ ?_
      go_wp2
      exact bodyPost_ret (v := .bool true) (by have := ha.2.2 (4, .bool true) (by simp); simp [results, Try.results5, go_sem, Array.getD_eq_getD_getElem?, this]) ha.2.1 ⟨rfl, E.out⟩
  have d : ((x : Int) == 10) = false := by rw [beq_eq_false_iff_ne]; omega
  have F3 : Hid (whr s ((k : Int) + 1) = (m + 1, r + 1 + 1)) := by show _ = _; rw [F2.out, stp10, if_neg h10]
  clear F2 h10
  go_enter Try.func5, Try.ntmps5
  go_wp2_with fail
  refine (where_is F1.out hs1).mono ?_; rintro e w1 ⟨rfl, hb⟩; replace E := Lib.hid (E.out.trans (hb.mono E.out.size)); clear hb
  go_wp2_with fail
  refine (where_is F3.out hs1).mono ?_; rintro e w2 ⟨rfl, hb⟩; replace E := Lib.hid (E.out.trans (hb.mono E.out.size)); clear hb
  go_wp2_with fail
  generalize hW : World.alloc (World.alloc w2 _) _ = W0
  have P0 : Hid (Bx2 W0 w2.heap.size (.int .i64 ((m : Int) + 1)) (.int .i64 ((r : Int) + 1))) := by show Bx2 _ _ _ _; rw [← hW]; exact (Bx2.newAt _ _ _ _ rfl).on ((Below.refl _ _).alloc (Nat.le_refl _) _)
  have E0 : Hid (Below w.heap.size w W0) := by show Below _ _ _; rw [← hW]; exact (E.out.alloc E.out.size _).alloc (by have := E.out.size; simp; omega) _
  clear hW E
  refine (lines_any s _ hs1).mono ?_; rintro e w3 ⟨v, rfl, hown, hb⟩
  obtain ⟨A, c, rfl, h⟩ := hown.rd
  obtain ⟨b, rfl, h1, h2, h3, h4, h5⟩ := h.at_ G1.out
  have P3 := Lib.hid (P0.out.on hb)
  have E := Lib.hid (E0.out.trans (hb.mono E0.out.size))
  clear h hown hb P0 E0 h4
  rw [HN.out] at h1 ⊢
  obtain ⟨T, hT⟩ : ∃ T, (lns s).getD m [] = T := ⟨_, rfl⟩
  rw [hT] at h5
  have hTs : (lns s)[m]? = some T := by rw [← hT, List.getD_eq_getElem?_getD, List.getElem?_eq_getElem G1.out]; rfl
  have hTm : T ∈ lns s := List.mem_of_getElem? hTs
  obtain ⟨Y, hY⟩ : ∃ Y, st9 T = Y := ⟨_, rfl⟩
  have hYb : bs9 Y = T := by rw [← hY]; exact bs9_st9 (HTB.out T hTm)
  have hYs : Y.size = T.length := by rw [← bs9_len, hYb]
  have G5 : Hid (r < Y.size → (bs9 Y)[r]? = some x) := fun h => by rw [hYb]; exact G4.out T hTs (by omega)
  rw [hY] at h5
  obtain ⟨p0, p1, pf0, pf1, plt⟩ := P3.out
  clear hT hTs hTm hY hYb hYs G4
  rcases Nat.lt_or_ge r Y.size with hr | hr
  · have hyx : (Y[r]'hr).toNat = x := by have := G5.out hr; rw [bs9_at Y r hr] at this; exact Option.some.inj this
    have ey : ((Y[r]'hr).toNat : Int) = (x : Int) := by rw [hyx]
    have d5 : decide ((Y.size : Int) < (r : Int) + 1) = false := decide_eq_false (by omega)
    have d6 : decide (Y.size < r + 1) = false := decide_eq_false (by omega)
    have d7 : decide (Y.size ≤ r) = false := decide_eq_false (by omega)
    have u1 : (r : Int) + 1 - 1 = (r : Int) := by omega
    have u2 : IntKind.i64.wrap ((r : Int) + 1 - 1) = (r : Int) := by rw [u1]; exact IntWalk.i64_in _ ⟨by omega, by omega⟩
    have u3 : IntKind.i64.wrap (r : Int) = (r : Int) := IntWalk.i64_in _ ⟨by omega, by omega⟩
    have u4 : (0 : Int) ≤ (r : Int) := by omega
    have u5 : (r : Int) < (Y.size : Int) := by omega
    have u6 : ((r : Int)).toNat = r := rfl
    clear G5
    go_wp2_with fail
    rename_i K hK
    refine line_start (ops := opsAt Try.prog 5 14) (S := fun v : World => v.cell? ⟨w2.heap.size, 1, none⟩ = some (.int .i64 ((r : Int) + 1))) (by kernel_rfl) (by kernel_rfl) (P3.out.c1) ?_
    have hSw : (fun v : World => v.cell? ⟨w2.heap.size, 1, none⟩ = some (.int .i64 ((r : Int) + 1))) w3.drew := P3.out.c1
    generalize hA : Act.mk _ _ = a
    have ha : Fr 99 a [(0, .string s), (1, .int .i64 (k : Int)), (5, .pointer (some ⟨w2.heap.size, 0, none⟩)), (8, .string Y)] := by rw [← hA]; exact ⟨rfl, rfl, by intro q hq; simp at hq; rcases hq with rfl | rfl | rfl | rfl <;> rfl⟩
    clear hA
    refine line_still pl10R 0 0 [] 80 (.pointer (some ⟨w2.heap.size, 1, none⟩)) [(0, .string s), (1, .int .i64 (k : Int)), (5, .pointer (some ⟨w2.heap.size, 0, none⟩)), (8, .string Y)] rfl (by decide) (by decide) (by decide) ha (fun o ho hg => y_of (wanted_none hg) (fun wx hS => e_fieldP ho (.inr rfl) (ha.ev (i := 5) (v := .pointer (some ⟨w2.heap.size, 0, none⟩)) (by simp)))) (by simp) hSw ?_; intro a ha
    refine line_still pl10R 1 1 [] 81 (.int .i64 ((r : Int) + 1)) [(0, .string s), (1, .int .i64 (k : Int)), (5, .pointer (some ⟨w2.heap.size, 0, none⟩)), (8, .string Y)] rfl (by decide) (by decide) (by decide) ha (fun o ho hg => y_of (wanted_none hg) (fun wx hS => e_cellI ho (ha.ev (i := 80) (v := .pointer (some ⟨w2.heap.size, 1, none⟩)) (by simp)) hS)) (by simp) hSw ?_; intro a ha
    refine line_still pl10R 2 2 [] 82 (.string Y) [(81, .int .i64 ((r : Int) + 1)), (0, .string s), (1, .int .i64 (k : Int)), (5, .pointer (some ⟨w2.heap.size, 0, none⟩)), (8, .string Y)] rfl (by decide) (by decide) (by decide) ha (fun o ho hg => y_of (wanted_none hg) (fun wx hS => e_move (.inl ho) (ha.ev (i := 8) (v := .string Y) (by simp)))) (by simp) hSw ?_; intro a ha
    refine line_still pl10R 3 3 [] 83 (.int .i64 (Y.size : Int)) [(81, .int .i64 ((r : Int) + 1)), (0, .string s), (1, .int .i64 (k : Int)), (5, .pointer (some ⟨w2.heap.size, 0, none⟩)), (8, .string Y)] rfl (by decide) (by decide) (by decide) ha (fun o ho hg => y_of (wanted_none hg) (fun wx hS => e_slenS ho (ha.ev (i := 82) (v := .string Y) (by simp)))) (by simp) hSw ?_; intro a ha
    refine line_still pl10R 4 4 [] 84 (.bool false) [(0, .string s), (1, .int .i64 (k : Int)), (5, .pointer (some ⟨w2.heap.size, 0, none⟩)), (8, .string Y)] rfl (by decide) (by decide) (by decide) ha (fun o ho hg => y_of (wanted_none hg) (fun wx hS => e_gtrI d5 ho (ha.ev (i := 81) (v := .int .i64 ((r : Int) + 1)) (by simp)) (ha.ev (i := 83) (v := .int .i64 (Y.size : Int)) (by simp)))) (by simp) hSw ?_; intro a ha
    refine line_still pl10R 5 5 [] 85 (.bool false) [(0, .string s), (1, .int .i64 (k : Int)), (5, .pointer (some ⟨w2.heap.size, 0, none⟩)), (8, .string Y)] rfl (by decide) (by decide) (by decide) ha (fun o ho hg => y_of (wanted_none hg) (fun wx hS => e_move (.inl ho) (ha.ev (i := 84) (v := .bool false) (by simp)))) (by simp) hSw ?_; intro a ha
    refine line_still pl10R 6 6 [] 86 (.string Y) [(85, .bool false), (0, .string s), (1, .int .i64 (k : Int)), (5, .pointer (some ⟨w2.heap.size, 0, none⟩))] rfl (by decide) (by decide) (by decide) ha (fun o ho hg => y_of (pl10R.wanted hg rfl ha (d := 85) (by simp)) (fun wx hS => e_move (.inl ho) (ha.ev (i := 8) (v := .string Y) (by simp)))) (by simp) hSw ?_; intro a ha
    refine line_still pl10R 7 7 [] 87 (.pointer (some ⟨w2.heap.size, 1, none⟩)) [(86, .string Y), (85, .bool false), (0, .string s), (1, .int .i64 (k : Int))] rfl (by decide) (by decide) (by decide) ha (fun o ho hg => y_of (pl10R.wanted hg rfl ha (d := 85) (by simp)) (fun wx hS => e_fieldP ho (.inr rfl) (ha.ev (i := 5) (v := .pointer (some ⟨w2.heap.size, 0, none⟩)) (by simp)))) (by simp) hSw ?_; intro a ha
    refine line_still pl10R 8 8 [] 88 (.int .i64 ((r : Int) + 1)) [(86, .string Y), (85, .bool false), (0, .string s), (1, .int .i64 (k : Int))] rfl (by decide) (by decide) (by decide) ha (fun o ho hg => y_of (pl10R.wanted hg rfl ha (d := 85) (by simp)) (fun wx hS => e_cellI ho (ha.ev (i := 87) (v := .pointer (some ⟨w2.heap.size, 1, none⟩)) (by simp)) hS)) (by simp) hSw ?_; intro a ha
    refine line_still pl10R 9 9 [] 89 (.int .i64 (r : Int)) [(86, .string Y), (85, .bool false), (0, .string s), (1, .int .i64 (k : Int))] rfl (by decide) (by decide) (by decide) ha (fun o ho hg => y_of (pl10R.wanted hg rfl ha (d := 85) (by simp)) (fun wx hS => e_subI (by omega) ⟨by omega, by omega⟩ ho (ha.ev (i := 88) (v := .int .i64 ((r : Int) + 1)) (by simp)) rfl)) (by simp) hSw ?_; intro a ha
    refine line_still pl10R 10 10 [] 90 (.int .u8 (x : Int)) [(85, .bool false), (0, .string s), (1, .int .i64 (k : Int))] rfl (by decide) (by decide) (by decide) ha (fun o ho hg => y_of (pl10R.wanted hg rfl ha (d := 85) (by simp)) (fun wx hS => e_idxS hr hyx ho (ha.ev (i := 86) (v := .string Y) (by simp)) (ha.ev (i := 89) (v := .int .i64 (r : Int)) (by simp)))) (by simp) hSw ?_; intro a ha
    refine line_still pl10R 11 11 [] 91 (.string s) [(90, .int .u8 (x : Int)), (85, .bool false), (1, .int .i64 (k : Int))] rfl (by decide) (by decide) (by decide) ha (fun o ho hg => y_of (pl10R.wanted hg rfl ha (d := 85) (by simp)) (fun wx hS => e_move (.inl ho) (ha.ev (i := 0) (v := .string s) (by simp)))) (by simp) hSw ?_; intro a ha
    refine line_still pl10R 12 12 [] 92 (.int .i64 (k : Int)) [(91, .string s), (90, .int .u8 (x : Int)), (85, .bool false)] rfl (by decide) (by decide) (by decide) ha (fun o ho hg => y_of (pl10R.wanted hg rfl ha (d := 85) (by simp)) (fun wx hS => e_move (.inl ho) (ha.ev (i := 1) (v := .int .i64 (k : Int)) (by simp)))) (by simp) hSw ?_; intro a ha
    refine line_still pl10R 13 13 [] 93 (.int .u8 (x : Int)) [(90, .int .u8 (x : Int)), (85, .bool false)] rfl (by decide) (by decide) (by decide) ha (fun o ho hg => y_of (pl10R.wanted hg rfl ha (d := 85) (by simp)) (fun wx hS => e_idxS hks hsx ho (ha.ev (i := 91) (v := .string s) (by simp)) (ha.ev (i := 92) (v := .int .i64 (k : Int)) (by simp)))) (by simp) hSw ?_; intro a ha
    refine line_still pl10R 14 14 [] 94 (.bool true) [(85, .bool false)] rfl (by decide) (by decide) (by decide) ha (fun o ho hg => y_of (pl10R.wanted hg rfl ha (d := 85) (by simp)) (fun wx hS => e_eqU (beq_self_eq_true _) ho (ha.ev (i := 90) (v := .int .u8 (x : Int)) (by simp)) (ha.ev (i := 93) (v := .int .u8 (x : Int)) (by simp)))) (by simp) hSw ?_; intro a ha
    refine line_still pl10R 15 15 [] 95 (.bool true) [] rfl (by decide) (by decide) (by decide) ha (fun o ho hg => y_of (wanted_none hg) (fun wx hS => e_pick ho (ha.ev (i := 85) (v := .bool false) (by simp)) rfl (ha.ev (i := 94) (v := .bool true) (by simp)))) (by simp) hSw ?_; intro a ha
    refine line_still pl10R 16 16 [] 96 (.bool true) [] rfl (by decide) (by decide) (by decide) ha (fun o ho hg => y_of (wanted_none hg) (fun wx hS => e_move (.inl ho) (ha.ev (i := 95) (v := .bool true) (by simp)))) (by simp) hSw ?_; intro a ha
    refine line_call pl10R 17 17 [] 97 (args := #[]) [(96, .bool true)] rfl (by decide) (by decide) (by decide) ha (fun o ho hg => ⟨(pl10R.wanted hg rfl ha (d := 96) (by simp)), e_call8 (by kernel_rfl) ho rfl (by simp)⟩) (by simp) ?_
    refine (awake10 _).mono ?_; rintro e w4 ⟨rfl, hb⟩
    have hSw : (fun v : World => v.cell? ⟨w2.heap.size, 1, none⟩ = some (.int .i64 ((r : Int) + 1))) w4 := by have := P3.out; exact (this.drew.on hb).c1
    replace E := Lib.hid (E.out.drew.trans (hb.mono E.out.drew.size)); clear hb
    refine ⟨_, rfl, hSw, ?_⟩; intro a ha
    refine line_still pl10R 18 18 [] 98 (.bool true) [] rfl (by decide) (by decide) (by decide) ha (fun o ho hg => y_of (wanted_none hg) (fun wx hS => e_pick ho (ha.ev (i := 96) (v := .bool true) (by simp)) (ha.ev (i := 97) (v := .bool true) (by simp)) rfl)) (by simp) hSw ?_; intro a ha
    refine line_still pl10R 19 19 [] 4 (.bool true) [] rfl (by decide) (by decide) (by decide) ha (fun o ho hg => y_of (wanted_none hg) (fun wx hS => e_move (.inr ho) (ha.ev (i := 98) (v := .bool true) (by simp)))) (by simp) hSw ?_; intro a ha
    refine line_end pl10R rfl ?_
    simp only [Exit.then]
    refine hK _ _ ?_
    go_wp2
    exact bodyPost_ret (v := .bool true) (by have := ha.2.2 (4, .bool true) (by simp); simp [results, Try.results5, go_sem, Array.getD_eq_getD_getElem?, this]) ha.2.1 ⟨rfl, E.out⟩
  · have d5 : decide ((Y.size : Int) < (r : Int) + 1) = true := decide_eq_true (by omega)
    clear G5
    go_wp2_with fail
    rename_i K hK
    refine line_start (ops := opsAt Try.prog 5 14) (S := fun v : World => v.cell? ⟨w2.heap.size, 1, none⟩ = some (.int .i64 ((r : Int) + 1))) (by kernel_rfl) (by kernel_rfl) (P3.out.c1) ?_
    have hSw : (fun v : World => v.cell? ⟨w2.heap.size, 1, none⟩ = some (.int .i64 ((r : Int) + 1))) w3.drew := P3.out.c1
    generalize hA : Act.mk _ _ = a
    have ha : Fr 99 a [(0, .string s), (1, .int .i64 (k : Int)), (5, .pointer (some ⟨w2.heap.size, 0, none⟩)), (8, .string Y)] := by rw [← hA]; exact ⟨rfl, rfl, by intro q hq; simp at hq; rcases hq with rfl | rfl | rfl | rfl <;> rfl⟩
    clear hA
    refine line_still pl11R 0 0 [] 80 (.pointer (some ⟨w2.heap.size, 1, none⟩)) [(0, .string s), (1, .int .i64 (k : Int)), (5, .pointer (some ⟨w2.heap.size, 0, none⟩)), (8, .string Y)] rfl (by decide) (by decide) (by decide) ha (fun o ho hg => y_of (wanted_none hg) (fun wx hS => e_fieldP ho (.inr rfl) (ha.ev (i := 5) (v := .pointer (some ⟨w2.heap.size, 0, none⟩)) (by simp)))) (by simp) hSw ?_; intro a ha
    refine line_still pl11R 1 1 [] 81 (.int .i64 ((r : Int) + 1)) [(0, .string s), (1, .int .i64 (k : Int)), (5, .pointer (some ⟨w2.heap.size, 0, none⟩)), (8, .string Y)] rfl (by decide) (by decide) (by decide) ha (fun o ho hg => y_of (wanted_none hg) (fun wx hS => e_cellI ho (ha.ev (i := 80) (v := .pointer (some ⟨w2.heap.size, 1, none⟩)) (by simp)) hS)) (by simp) hSw ?_; intro a ha
    refine line_still pl11R 2 2 [] 82 (.string Y) [(81, .int .i64 ((r : Int) + 1)), (0, .string s), (1, .int .i64 (k : Int)), (5, .pointer (some ⟨w2.heap.size, 0, none⟩)), (8, .string Y)] rfl (by decide) (by decide) (by decide) ha (fun o ho hg => y_of (wanted_none hg) (fun wx hS => e_move (.inl ho) (ha.ev (i := 8) (v := .string Y) (by simp)))) (by simp) hSw ?_; intro a ha
    refine line_still pl11R 3 3 [] 83 (.int .i64 (Y.size : Int)) [(81, .int .i64 ((r : Int) + 1)), (0, .string s), (1, .int .i64 (k : Int)), (5, .pointer (some ⟨w2.heap.size, 0, none⟩)), (8, .string Y)] rfl (by decide) (by decide) (by decide) ha (fun o ho hg => y_of (wanted_none hg) (fun wx hS => e_slenS ho (ha.ev (i := 82) (v := .string Y) (by simp)))) (by simp) hSw ?_; intro a ha
    refine line_still pl11R 4 4 [] 84 (.bool true) [(0, .string s), (1, .int .i64 (k : Int)), (5, .pointer (some ⟨w2.heap.size, 0, none⟩)), (8, .string Y)] rfl (by decide) (by decide) (by decide) ha (fun o ho hg => y_of (wanted_none hg) (fun wx hS => e_gtrI d5 ho (ha.ev (i := 81) (v := .int .i64 ((r : Int) + 1)) (by simp)) (ha.ev (i := 83) (v := .int .i64 (Y.size : Int)) (by simp)))) (by simp) hSw ?_; intro a ha
    refine line_still pl11R 5 5 [] 85 (.bool true) [(0, .string s), (1, .int .i64 (k : Int)), (5, .pointer (some ⟨w2.heap.size, 0, none⟩)), (8, .string Y)] rfl (by decide) (by decide) (by decide) ha (fun o ho hg => y_of (wanted_none hg) (fun wx hS => e_move (.inl ho) (ha.ev (i := 84) (v := .bool true) (by simp)))) (by simp) hSw ?_; intro a ha
    refine line_still pl11R 6 6 [] 86 undef [(85, .bool true), (0, .string s), (1, .int .i64 (k : Int)), (5, .pointer (some ⟨w2.heap.size, 0, none⟩))] rfl (by decide) (by decide) (by decide) ha (fun o ho hg => y_not (pl11R.unwanted hg rfl ha (d := 85) (by simp))) (by simp) hSw ?_; intro a ha
    refine line_still pl11R 7 7 [] 87 undef [(86, undef), (85, .bool true), (0, .string s), (1, .int .i64 (k : Int))] rfl (by decide) (by decide) (by decide) ha (fun o ho hg => y_not (pl11R.unwanted hg rfl ha (d := 85) (by simp))) (by simp) hSw ?_; intro a ha
    refine line_still pl11R 8 8 [] 88 undef [(86, undef), (85, .bool true), (0, .string s), (1, .int .i64 (k : Int))] rfl (by decide) (by decide) (by decide) ha (fun o ho hg => y_not (pl11R.unwanted hg rfl ha (d := 85) (by simp))) (by simp) hSw ?_; intro a ha
    refine line_still pl11R 9 9 [] 89 undef [(86, undef), (85, .bool true), (0, .string s), (1, .int .i64 (k : Int))] rfl (by decide) (by decide) (by decide) ha (fun o ho hg => y_not (pl11R.unwanted hg rfl ha (d := 85) (by simp))) (by simp) hSw ?_; intro a ha
    refine line_still pl11R 10 10 [] 90 undef [(85, .bool true), (0, .string s), (1, .int .i64 (k : Int))] rfl (by decide) (by decide) (by decide) ha (fun o ho hg => y_not (pl11R.unwanted hg rfl ha (d := 85) (by simp))) (by simp) hSw ?_; intro a ha
    refine line_still pl11R 11 11 [] 91 undef [(90, undef), (85, .bool true), (1, .int .i64 (k : Int))] rfl (by decide) (by decide) (by decide) ha (fun o ho hg => y_not (pl11R.unwanted hg rfl ha (d := 85) (by simp))) (by simp) hSw ?_; intro a ha
    refine line_still pl11R 12 12 [] 92 undef [(91, undef), (90, undef), (85, .bool true)] rfl (by decide) (by decide) (by decide) ha (fun o ho hg => y_not (pl11R.unwanted hg rfl ha (d := 85) (by simp))) (by simp) hSw ?_; intro a ha
    refine line_still pl11R 13 13 [] 93 undef [(90, undef), (85, .bool true)] rfl (by decide) (by decide) (by decide) ha (fun o ho hg => y_not (pl11R.unwanted hg rfl ha (d := 85) (by simp))) (by simp) hSw ?_; intro a ha
    refine line_still pl11R 14 14 [] 94 undef [(85, .bool true)] rfl (by decide) (by decide) (by decide) ha (fun o ho hg => y_not (pl11R.unwanted hg rfl ha (d := 85) (by simp))) (by simp) hSw ?_; intro a ha
    refine line_still pl11R 15 15 [] 95 (.bool true) [] rfl (by decide) (by decide) (by decide) ha (fun o ho hg => y_of (wanted_none hg) (fun wx hS => e_pick ho (ha.ev (i := 85) (v := .bool true) (by simp)) rfl (ha.ev (i := 94) (v := undef) (by simp)))) (by simp) hSw ?_; intro a ha
    refine line_still pl11R 16 16 [] 96 (.bool true) [] rfl (by decide) (by decide) (by decide) ha (fun o ho hg => y_of (wanted_none hg) (fun wx hS => e_move (.inl ho) (ha.ev (i := 95) (v := .bool true) (by simp)))) (by simp) hSw ?_; intro a ha
    refine line_call pl11R 17 17 [] 97 (args := #[]) [(96, .bool true)] rfl (by decide) (by decide) (by decide) ha (fun o ho hg => ⟨(pl11R.wanted hg rfl ha (d := 96) (by simp)), e_call8 (by kernel_rfl) ho rfl (by simp)⟩) (by simp) ?_
    refine (awake10 _).mono ?_; rintro e w4 ⟨rfl, hb⟩
    have hSw : (fun v : World => v.cell? ⟨w2.heap.size, 1, none⟩ = some (.int .i64 ((r : Int) + 1))) w4 := by have := P3.out; exact (this.drew.on hb).c1
    replace E := Lib.hid (E.out.drew.trans (hb.mono E.out.drew.size)); clear hb
    refine ⟨_, rfl, hSw, ?_⟩; intro a ha
    refine line_still pl11R 18 18 [] 98 (.bool true) [] rfl (by decide) (by decide) (by decide) ha (fun o ho hg => y_of (wanted_none hg) (fun wx hS => e_pick ho (ha.ev (i := 96) (v := .bool true) (by simp)) (ha.ev (i := 97) (v := .bool true) (by simp)) rfl)) (by simp) hSw ?_; intro a ha
    refine line_still pl11R 19 19 [] 4 (.bool true) [] rfl (by decide) (by decide) (by decide) ha (fun o ho hg => y_of (wanted_none hg) (fun wx hS => e_move (.inr ho) (ha.ev (i := 98) (v := .bool true) (by simp)))) (by simp) hSw ?_; intro a ha
    refine line_end pl11R rfl ?_
    simp only [Exit.then]
    refine hK _ _ ?_
    go_wp2
    exact bodyPost_ret (v := .bool true) (by have := ha.2.2 (4, .bool true) (by simp); simp [results, Try.results5, go_sem, Array.getD_eq_getD_getElem?, this]) ha.2.1 ⟨rfl, E.out⟩

end Go.Proofs.Ythpoplgejenpgaa
