/-
  Contracts of layer 11: Common and the document's.
-/
import Derived.Test.YtaaikbbgbnbmkaaDoorNamI
set_option linter.unusedVariables false
set_option linter.unusedSimpArgs false
namespace Go.Proofs.YtaaikbbgbnbmkaaDoor
open Go.RowKit

/-- What is the same up to j, and what is to be compared yet. -/
theorem cpl_from {α : Type} [DecidableEq α] {a b : List α} {j : Nat} {x y : α} (h : cpl a b = a.take j ++ cpl (a.drop j) (b.drop j)) (hx : a[j]? = some x) (hy : b[j]? = some y) :
    (x = y → cpl a b = a.take (j + 1) ++ cpl (a.drop (j + 1)) (b.drop (j + 1))) ∧ (x ≠ y → cpl a b = a.take j) := by
  have e1 : a.drop j = x :: a.drop (j + 1) := by
    have hl := (List.getElem?_eq_some_iff.1 hx).1
    rw [List.drop_eq_getElem_cons hl, (List.getElem?_eq_some_iff.1 hx).2]
  have e2 : b.drop j = y :: b.drop (j + 1) := by
    have hl := (List.getElem?_eq_some_iff.1 hy).1
    rw [List.drop_eq_getElem_cons hl, (List.getElem?_eq_some_iff.1 hy).2]
  constructor
  · rintro rfl
    rw [h, e1, e2, cpl, if_pos rfl, List.take_add_one, hx, List.append_assoc]; rfl
  · intro hne
    rw [h, e1, e2, cpl, if_neg hne, List.append_nil]
theorem cpl_end {α : Type} [DecidableEq α] {a b : List α} {j : Nat} (h : cpl a b = a.take j ++ cpl (a.drop j) (b.drop j)) (hj : a.length ≤ j ∨ b.length ≤ j) : cpl a b = a.take j := by
  rw [h]
  rcases hj with hj | hj
  · rw [List.drop_of_length_le hj]
    cases b.drop j <;> rw [cpl] <;> first | rw [List.append_nil] | skip
    all_goals simp
  · rw [List.drop_of_length_le hj]
    cases a.drop j <;> simp [cpl]

theorem min_gen {P : Program} {x y z : Int} (h : min x y = z) (ts : Array TypeId) (ty : TypeId) (W : World) : (Builtin.min_ ts ty #[.int .i64 x, .int .i64 y]).run P W = .ok (.int .i64 z) W := by
  rw [run_min_int2]
  have e : (if y < x then y else x) = z := by rw [← h]; split <;> omega
  rw [e]
set_option maxHeartbeats 4000000 in
set_option maxRecDepth 100000 in
theorem common_is {a b X : ByteArray} (h : com (bs9 a) (bs9 b) = bs9 X) (ha : a.size ≤ 1000000) (hb : b.size ≤ 1000000) (w : World) : Calls Tryd.prog 28 #[.string a, .string b] w (Ret9 w (.string X)) := by
  have H := Lib.hid h
  clear h
  obtain ⟨k, hk⟩ : ∃ k, min a.size b.size = k := ⟨_, rfl⟩
  have hka : k ≤ a.size := by omega
  have hkb : k ≤ b.size := by omega
  have hmn := min_gen (P := Tryd.prog) (x := (a.size : Int)) (y := (b.size : Int)) (z := (k : Int)) (by omega)
  go_enter Tryd.func28, Tryd.ntmps28
  go_wp2_with fail
  go_loopw [5] (fun jv wr => ∃ j : Nat, jv = .int .i64 j ∧ j ≤ a.size ∧ j ≤ b.size ∧ cpl (bs9 a) (bs9 b) = (bs9 a).take j ++ cpl ((bs9 a).drop j) ((bs9 b).drop j) ∧ Below w.heap.size w wr) (fun jv _ => a.size - (intOf jv).toNat)
  case atStart => exact ⟨0, rfl, Nat.zero_le _, Nat.zero_le _, rfl, Below.refl _ _⟩
  case round =>
    obtain ⟨j, rfl, hja, hjb, hc, hbl⟩ := hrel
    have HC := Lib.hid hc
    have HB := Lib.hid hbl
    clear hc hbl
    have done : Hid (∀ C : ByteArray, cpl (bs9 a) (bs9 b) = bs9 C → C.size ≤ 1000000 → ∀ w', Below w.heap.size w w' → True) := fun _ _ _ _ _ => trivial
    clear done
    rcases Nat.lt_or_ge j k with hjk | hjk
    · have hlt : j < a.size := by omega
      have hlt2 : j < b.size := by omega
      have d0 : decide ((j : Int) < (k : Int)) = true := decide_eq_true (by omega)
      have d0' : decide (j < k) = true := decide_eq_true hjk
      obtain ⟨x, hx⟩ : ∃ x, x = (a[j]'hlt).toNat := ⟨_, rfl⟩
      obtain ⟨y, hy⟩ : ∃ y, y = (b[j]'hlt2).toNat := ⟨_, rfl⟩
      have ex : ((a[j]'hlt).toNat : Int) = (x : Int) := by rw [hx]
      have ey : ((b[j]'hlt2).toNat : Int) = (y : Int) := by rw [hy]
      have hs := cpl_from HC.out (x := x) (y := y) (by rw [bs9_at a j hlt, hx]) (by rw [bs9_at b j hlt2, hy])
      clear hx hy
      by_cases hxy : x = y
      · have d : ((x : Int) == (y : Int)) = true := by rw [hxy, beq_self_eq_true]
        have E := Lib.hid (hs.1 hxy)
        clear hs hxy
        go_wp2_with fail
        go_region
        go_wp2_with fail
        go_roundw
        case rel => exact ⟨j + 1, by go_num, by omega, by omega, E.out, HB.out.trans ((below_drewN _ _).mono HB.out.size)⟩
        case measure => simp [intOf] <;> omega
      · have d : ((x : Int) == (y : Int)) = false := by rw [beq_eq_false_iff_ne]; omega
        have E := Lib.hid (hs.2 hxy)
        clear hs hxy
        obtain ⟨C, hC⟩ : ∃ C, a.extract 0 j = C := ⟨_, rfl⟩
        have hsl : ∀ w', (Instr.slice 9 (.string a) none (some (.int .i64 (j : Int))) none).run Tryd.prog w' = .ok (.string C) w' := sl_to hja hC
        have HCB : Hid (bs9 C = cpl (bs9 a) (bs9 b)) := by show _ = _; rw [E.out, ← hC, bs9_take]
        have hCs : C.size ≤ 1000000 := by rw [← hC]; simp only [ByteArray.size_extract]; omega
        have HCO := Lib.hid (com_bytes HCB.out)
        clear hC
        obtain ⟨b1, hb1⟩ := ub_any (bs9 a) (bs9 C)
        obtain ⟨b2, hb2⟩ := ub_any (bs9 b) (bs9 C)
        have B1 := Lib.hid hb1
        have B2 := Lib.hid hb2
        clear hb1 hb2
        cases b1 with
        | false =>
          have P : Hid (prl (bs9 C) = bs9 X) := by show _ = _; rw [← HCO.out.2 (fun e => by have := B1.out.1 e.1; cases this)]; exact H.out
          go_wp2_with fail
          go_region
          go_wp2_with fail
          refine (under_is B1.out ha hCs _).mono ?_; rintro e w3 ⟨rfl, hw⟩; obtain rfl := hw.symm
          go_wp2_with fail
          refine (parent_is P.out hCs _).mono ?_; rintro e w3 ⟨rfl, hw⟩; obtain rfl := hw.symm
          go_wp2_with fail
          go_ret
          exact ⟨rfl, HB.out.trans ((below_drewN _ _).mono HB.out.size)⟩
        | true =>
          cases b2 with
          | false =>
            have P : Hid (prl (bs9 C) = bs9 X) := by show _ = _; rw [← HCO.out.2 (fun e => by have := B2.out.1 e.2; cases this)]; exact H.out
            go_wp2_with fail
            go_region
            go_wp2_with fail
            refine (under_is B1.out ha hCs _).mono ?_; rintro e w3 ⟨rfl, hw⟩; obtain rfl := hw.symm
            go_wp2_with fail
            refine (under_is B2.out hb hCs _).mono ?_; rintro e w3 ⟨rfl, hw⟩; obtain rfl := hw.symm
            go_wp2_with fail
            refine (parent_is P.out hCs _).mono ?_; rintro e w3 ⟨rfl, hw⟩; obtain rfl := hw.symm
            go_wp2_with fail
            go_ret
            exact ⟨rfl, HB.out.trans ((below_drewN _ _).mono HB.out.size)⟩
          | true =>
            have P : Hid (C = X) := bs9_inj (by rw [← HCO.out.1 ⟨B1.out.2 rfl, B2.out.2 rfl⟩]; exact H.out)
            go_wp2_with fail
            go_region
            go_wp2_with fail
            refine (under_is B1.out ha hCs _).mono ?_; rintro e w3 ⟨rfl, hw⟩; obtain rfl := hw.symm
            go_wp2_with fail
            refine (under_is B2.out hb hCs _).mono ?_; rintro e w3 ⟨rfl, hw⟩; obtain rfl := hw.symm
            go_wp2_with fail
            go_ret
            exact ⟨by rw [← P.out]; rfl, HB.out.trans ((below_drewN _ _).mono HB.out.size)⟩
    · have d0 : decide ((j : Int) < (k : Int)) = false := decide_eq_false (by omega)
      have d0' : decide (j < k) = false := decide_eq_false (by omega)
      have E := Lib.hid (cpl_end HC.out (by rw [bs9_len, bs9_len]; omega))
      obtain ⟨C, hC⟩ : ∃ C, a.extract 0 j = C := ⟨_, rfl⟩
      have hsl : ∀ w', (Instr.slice 9 (.string a) none (some (.int .i64 (j : Int))) none).run Tryd.prog w' = .ok (.string C) w' := sl_to hja hC
      have HCB : Hid (bs9 C = cpl (bs9 a) (bs9 b)) := by show _ = _; rw [E.out, ← hC, bs9_take]
      have hCs : C.size ≤ 1000000 := by rw [← hC]; simp only [ByteArray.size_extract]; omega
      have HCO := Lib.hid (com_bytes HCB.out)
      clear hC
      obtain ⟨b1, hb1⟩ := ub_any (bs9 a) (bs9 C)
      obtain ⟨b2, hb2⟩ := ub_any (bs9 b) (bs9 C)
      have B1 := Lib.hid hb1
      have B2 := Lib.hid hb2
      clear hb1 hb2
      cases b1 with
      | false =>
        have P : Hid (prl (bs9 C) = bs9 X) := by show _ = _; rw [← HCO.out.2 (fun e => by have := B1.out.1 e.1; cases this)]; exact H.out
        go_wp2_with fail
        go_region
        go_wp2_with fail
        refine (under_is B1.out ha hCs _).mono ?_; rintro e w3 ⟨rfl, hw⟩; obtain rfl := hw.symm
        go_wp2_with fail
        refine (parent_is P.out hCs _).mono ?_; rintro e w3 ⟨rfl, hw⟩; obtain rfl := hw.symm
        go_wp2_with fail
        go_ret
        exact ⟨rfl, HB.out.trans ((below_drewN _ _).mono HB.out.size)⟩
      | true =>
        cases b2 with
        | false =>
          have P : Hid (prl (bs9 C) = bs9 X) := by show _ = _; rw [← HCO.out.2 (fun e => by have := B2.out.1 e.2; cases this)]; exact H.out
          go_wp2_with fail
          go_region
          go_wp2_with fail
          refine (under_is B1.out ha hCs _).mono ?_; rintro e w3 ⟨rfl, hw⟩; obtain rfl := hw.symm
          go_wp2_with fail
          refine (under_is B2.out hb hCs _).mono ?_; rintro e w3 ⟨rfl, hw⟩; obtain rfl := hw.symm
          go_wp2_with fail
          refine (parent_is P.out hCs _).mono ?_; rintro e w3 ⟨rfl, hw⟩; obtain rfl := hw.symm
          go_wp2_with fail
          go_ret
          exact ⟨rfl, HB.out.trans ((below_drewN _ _).mono HB.out.size)⟩
        | true =>
          have P : Hid (C = X) := bs9_inj (by rw [← HCO.out.1 ⟨B1.out.2 rfl, B2.out.2 rfl⟩]; exact H.out)
          go_wp2_with fail
          go_region
          go_wp2_with fail
          refine (under_is B1.out ha hCs _).mono ?_; rintro e w3 ⟨rfl, hw⟩; obtain rfl := hw.symm
          go_wp2_with fail
          refine (under_is B2.out hb hCs _).mono ?_; rintro e w3 ⟨rfl, hw⟩; obtain rfl := hw.symm
          go_wp2_with fail
          go_ret
          exact ⟨by rw [← P.out]; rfl, HB.out.trans ((below_drewN _ _).mono HB.out.size)⟩

end Go.Proofs.YtaaikbbgbnbmkaaDoor
