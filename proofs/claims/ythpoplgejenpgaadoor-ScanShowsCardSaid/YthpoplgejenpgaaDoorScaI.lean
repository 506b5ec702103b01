/-
  Contracts of layer 10, the ninth part: the document's number.
-/
import Derived.Test.YthpoplgejenpgaaDoorScaH
import Derived.Lib.ItoaLen
set_option linter.unusedVariables false
set_option linter.unusedSimpArgs false
namespace Go.Proofs.YthpoplgejenpgaaDoor
open Go.RowKit

/-- A number's digits. -/
def num10 (x : Nat) : List Nat := (Lib.decDigits x).map UInt8.toNat
theorem num10_st (x : Nat) : st9 (num10 x) = ⟨(Lib.decDigits x).toArray⟩ := by
  unfold st9 num10
  rw [List.map_map, show (UInt8.ofNat ∘ UInt8.toNat) = id from funext fun x => UInt8.ofNat_toNat (x := x), List.map_id]
theorem num10_one {x : Nat} (h : x < 10) : num10 x = [48 + x] := by
  unfold num10
  rw [Lib.decDigits_one h, List.map_singleton]
  congr 1
  rw [UInt8.toNat_ofNat']; omega
theorem num10_step {x : Nat} (h : ¬ x < 10) : num10 x = num10 (x / 10) ++ [48 + x % 10] := by
  unfold num10
  rw [Lib.decDigits, dif_neg h, List.map_append, List.map_singleton]
  congr 2
  rw [UInt8.toNat_ofNat']; omega
theorem num10_len : ∀ (k x : Nat), x < 10 ^ (k + 1) → (num10 x).length ≤ k + 1 := by
  intro k
  induction k with
  | zero => intro x h; rw [num10_one (by simpa using h)]; simp
  | succ k ih =>
    intro x h
    by_cases h1 : x < 10
    · rw [num10_one h1]; simp
    · rw [num10_step h1, List.length_append, List.length_singleton]
      have := ih (x / 10) (by rw [Nat.pow_succ] at h; omega)
      omega
theorem num10_lt (x : Nat) : ∀ c ∈ num10 x, c < 256 := by
  intro c hc
  obtain ⟨b, _, rfl⟩ := List.mem_map.1 hc
  exact b.toNat_lt
theorem num10_len8 {x : Nat} (h : x ≤ 1000000) : (num10 x).length ≤ 8 := num10_len 7 x (by omega)
theorem strOfNums9 (l : List Nat) : strOfNums (l.map fun (y : Nat) => (y : Int)) = st9 l := by
  unfold strOfNums st9
  rw [List.map_map]
  congr 2
theorem conv10 (W : World) (b y : Nat) (h : W.cell? ⟨b, 0, none⟩ = some (.int .u8 (y : Int))) : (convert 41 9 (.slice (some ⟨b, 0, none⟩) 1 1)).run Tryd.prog W = .ok (.string (st9 [y])) W := by
  rw [run_convert_bytes_arg _ 41 5 Tryd.underlying41 Tryd.underlying5 b 0 1 1 ([y].map fun (y : Nat) => (y : Int)) rfl (fun i hi => ?_) 9 Tryd.underlying9, strOfNums9]
  obtain rfl : i = 0 := by omega
  exact h

theorem bel_a {w W w1 : World} (h : Below w.heap.size w W) (h1 : Below W.heap.size W w1) : Below w.heap.size w w1 := h.trans (h1.mono h.size)
theorem cell_on {W w1 : World} (hb : Below W.heap.size W w1) (b : Nat) (v : Value) (h : W.cell? ⟨b, 0, none⟩ = some v) : w1.cell? ⟨b, 0, none⟩ = some v := (hb.cell (p := ⟨b, 0, none⟩) (World.block_lt_of_cell? W _ h)).trans h

set_option maxHeartbeats 4000000 in
set_option maxRecDepth 100000 in
theorem number_one (n : Int) (x : Nat) (w : World) (hx : n.toNat = x) (h : n < 10) : Calls Tryd.prog 21 #[.int .i64 n] w (Ret9 w (.string (st9 (num10 x)))) := by
  have hx10 : x < 10 := by omega
  have E : Hid (num10 x = [48 + x]) := num10_one hx10
  rw [E.out]
  have d : decide (n < 10) = true := decide_eq_true h
  have em : max (0 : Int) n = (x : Int) := by omega
  obtain ⟨y, hy⟩ : ∃ y, 48 + x = y := ⟨_, rfl⟩
  have hy2 : (48 : Int) + (x : Int) = (y : Int) := by omega
  have m0 : ((y : Int) % 256) = (y : Int) := by omega
  rw [hy]
  obtain ⟨S, hS⟩ : ∃ S, st9 [y] = S := ⟨_, rfl⟩
  have HCV : ∀ (W : World) (b : Nat), W.cell? ⟨b, 0, none⟩ = some (.int .u8 (y : Int)) → (convert 41 9 (.slice (some ⟨b, 0, none⟩) 1 1)).run Tryd.prog W = .ok (.string S) W := fun W b h => by rw [← hS]; exact conv10 W b y h
  have hcv := HCV (w.alloc (.cells #[.int .u8 (y : Int)] 5)) w.heap.size (by simp)
  clear HCV E h
  rw [hS]
  clear hS hy
  go_enter Tryd.func21, Tryd.ntmps21
  go_wp2_with fail
  go_ret
  exact ⟨rfl, (Below.refl _ _).alloc (Nat.le_refl _) _⟩

set_option maxHeartbeats 4000000 in
set_option maxRecDepth 100000 in
theorem number_more (x q r : Nat) (w : World) (hq : x / 10 = q) (hr : x % 10 = r) (h : ¬ x < 10) (hx : x ≤ 1000000) (ih : ∀ w, Calls Tryd.prog 21 #[.int .i64 (q : Int)] w (Ret9 w (.string (st9 (num10 q))))) : Calls Tryd.prog 21 #[.int .i64 (x : Int)] w (Ret9 w (.string (st9 (num10 x)))) := by
  have E : Hid (num10 x = num10 q ++ [48 + r]) := by show _ = _; rw [num10_step h, hq, hr]
  have hl := num10_len8 hx
  rw [E.out, List.length_append, List.length_singleton] at hl
  rw [E.out]
  have d : decide ((x : Int) < 10) = false := decide_eq_false (by omega)
  obtain ⟨y, hy⟩ : ∃ y, 48 + r = y := ⟨_, rfl⟩
  have u1 : (x : Int).tdiv 10 = (q : Int) := by rw [Int.tdiv_eq_ediv_of_nonneg (by omega)]; omega
  have u2 : IntKind.i64.wrap (q : Int) = (q : Int) := IntWalk.i64_in _ ⟨by omega, by omega⟩
  have u3 : (x : Int).tmod 10 = (r : Int) := by rw [Int.tmod_eq_emod_of_nonneg (by omega)]; omega
  have u4 : IntKind.i64.wrap (r : Int) = (r : Int) := IntWalk.i64_in _ ⟨by omega, by omega⟩
  have u5 : (48 : Int) + (r : Int) = (y : Int) := by omega
  have u6 : IntKind.i64.wrap (y : Int) = (y : Int) := IntWalk.i64_in _ ⟨by omega, by omega⟩
  have u7 : IntKind.u8.wrap (y : Int) = (y : Int) := IntWalk.u8_in (y : Int) ⟨by omega, by omega⟩
  rw [hy]
  obtain ⟨S, hS⟩ : ∃ S, st9 [y] = S := ⟨_, rfl⟩
  obtain ⟨Q, hQ⟩ : ∃ Q, st9 (num10 q) = Q := ⟨_, rfl⟩
  obtain ⟨R, hR⟩ : ∃ R, st9 (num10 q ++ [y]) = R := ⟨_, rfl⟩
  have ha : ∀ w', (Op.stringOp .add Q S).run Tryd.prog w' = .ok (.string R) w' := fun w' => by rw [← hQ, ← hS, ← hR]; exact addst (by simp; omega) w'
  have HCV : ∀ (W : World) (b : Nat), W.cell? ⟨b, 0, none⟩ = some (.int .u8 (y : Int)) → (convert 41 9 (.slice (some ⟨b, 0, none⟩) 1 1)).run Tryd.prog W = .ok (.string S) W := fun W b h => by rw [← hS]; exact conv10 W b y h
  rw [hR]
  have IH : Hid (∀ w, Calls Tryd.prog 21 #[.int .i64 (q : Int)] w (Ret9 w (.string Q))) := by rw [← hQ]; exact ih
  clear hS hQ hR hl E h hq hr ih
  go_enter Tryd.func21, Tryd.ntmps21
  go_wp2_with fail
  have HB := Lib.hid (Below.refl w.heap.size w).drew
  go_region_with ((go_at_call 21; refine (IH.out _).mono ?_; rintro e w1 ⟨rfl, hb⟩; have hc := cell_on hb w.heap.size (.int .u8 (y : Int)); (try simp [go_sem] at hc); have HB1 := Lib.hid hb; clear hb))
  all_goals
    go_wp2_with fail
    go_ret
    first | exact ⟨rfl, bel_a (HB.out.alloc HB.out.size _) HB1.out⟩ | exact ⟨rfl, (bel_a HB.out HB1.out).alloc (bel_a HB.out HB1.out).size _⟩

theorem number_any : ∀ (m : Nat) (n : Int), n.toNat ≤ m → n ≤ 1000000 → ∀ w : World, Calls Tryd.prog 21 #[.int .i64 n] w (Ret9 w (.string (st9 (num10 n.toNat))))
  | 0, n, h, _, w => number_one n n.toNat w rfl (by omega)
  | m + 1, n, h, hn, w => by
    by_cases h1 : n < 10
    · exact number_one n n.toNat w rfl h1
    · obtain ⟨x, rfl⟩ : ∃ x : Nat, n = x := ⟨n.toNat, by omega⟩
      rw [Int.toNat_natCast]
      refine number_more x (x / 10) (x % 10) w rfl rfl (by omega) (by omega) fun w => ?_
      have := number_any m ((x / 10 : Nat) : Int) (by rw [Int.toNat_natCast] at h ⊢; omega) (by omega) w
      rwa [Int.toNat_natCast] at this

end Go.Proofs.YthpoplgejenpgaaDoor
