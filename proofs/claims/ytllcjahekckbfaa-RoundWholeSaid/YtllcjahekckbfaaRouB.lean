/-
  Contracts of layer 6, the second part: slices.Clone of limbs, shortened.
-/
import Derived.Test.YtllcjahekckbfaaRouA
set_option linter.unusedVariables false
set_option linter.unusedSimpArgs false
namespace Go.Proofs.Ytllcjahekckbfaa
open Go.RowKit

theorem eql_some_nil {P : Program} (w : World) {t e : TypeId} (a : Addr) (n c : Nat) (ht : P.underlying t = some (.slice e)) :
    (binOp .eql t (.slice (some a) n c) (.slice none 0 0)).run P w = .ok (.bool false) w := by
  have h : ∀ d : Nat, (Op.equalIn (d + 1) t (.slice (some a) n c) (.slice none 0 0)).run P w = .ok false w := fun d => by
    simp [Op.equalIn, run_underlying ht]
  simp only [binOp]
  simp [Op.equal, Op.maxDepth, h 9999]
theorem own_empty (w : World) (t : TypeId) : (w.alloc (.cells #[] t)).ownsRow w.heap.size t 1 (.slice (some ⟨w.heap.size, 0, none⟩) 0 0) 0 [] :=
  ⟨rfl, .inr ⟨w.heap.size, 0, #[], rfl, Nat.le_refl _, heap_alloc_new w _, Nat.le_refl _, by unfold maxLen; omega, rfl, rfl⟩⟩
/-- The lowest limb is written anew. -/
theorem Lim.put {w : World} {B n c g : Nat} {x : Nat} {xs : List Nat} (h : Lim w B (some ⟨g, 0, none⟩) n c xs) (hx : x < 4294967296) (hn : 0 < n) : Lim (w.setCell ⟨g, 0, none⟩ (.int .u32 (x : Int))) B (some ⟨g, 0, none⟩) n c (xs.set 0 x) := by
  obtain ⟨b, o, he, hb, hc0⟩ := h.at_ hn
  injection he with he
  injection he with h1 h2 h3
  subst h1; subst h2
  refine ⟨by rw [List.length_set, h.len], h.cap, h.room, ?_, ?_, fun h => by cases h⟩
  · intro y hy
    rcases List.mem_or_eq_of_mem_set hy with h1 | h1
    · exact h.fit y h1
    · omega
  · refine .inr ⟨g, 0, rfl, hb, fun j u hu => ?_⟩
    rw [vals_set] at hu
    rcases Nat.eq_zero_or_pos j with h0 | h0
    · subst h0
      rw [List.getElem?_set_self (by rw [vals_len, h.len]; exact hn)] at hu
      injection hu with hu
      subst hu
      exact World.cell?_setCell_same _ _ _ hc0
    · rw [List.getElem?_set_ne (by omega)] at hu
      rw [World.cell?_setCell_other _ _ _ _ (by simp only [ne_eq, Addr.mk.injEq]; omega)]
      rcases h.row with h1 | ⟨b', o', he', _, hc⟩
      · rw [h1] at hu; simp at hu
      · injection he' with he'
        injection he' with h2 h3 h4
        subst h2; subst h3
        exact hc j u hu

/-- What slices.Clone hands back: limbs in a block of its own. -/
def RetClone (W : World) (xs : List Nat) (e : Ending) (w' : World) : Prop :=
  ∃ g n c, e = .returned (.slice (some ⟨g, 0, none⟩) n c) ∧ W.heap.size ≤ g ∧ Lim w' w'.heap.size (some ⟨g, 0, none⟩) n c xs ∧ w'.frozen? ⟨g, 0, none⟩ = false ∧ Below W.heap.size W w'
theorem own_clone {w : World} {base n c : Nat} {A : Option Addr} {xs : List Value} (h : w.ownsRow base 67 1 (.slice A n c) n xs) (hn : 0 < n) : ∃ g, A = some ⟨g, 0, none⟩ ∧ base ≤ g ∧ w.frozen? ⟨g, 0, none⟩ = false := by
  rcases h.2 with ⟨h1, h2⟩ | ⟨g, cap, cur, hv, hg, hh, hnc, hcm, hsz, htk⟩
  · omega
  · injection hv with h1 h3 h4
    exact ⟨g, h1, hg, frozen_of_row w g 0 _ _ hh⟩
set_option maxRecDepth 100000 in
theorem clone_any (b o n c B : Nat) (xs : List Nat) (w : World) (h : Lim w B (some ⟨b, o, none⟩) n c xs) (hn : 0 < n) (hn2 : n ≤ 1000000000) (hB : B ≤ w.heap.size) :
    Calls Try.prog 72 #[.slice (some ⟨b, o, none⟩) n c] w (RetClone w xs) := by
  obtain ⟨i0, hi, hz0, hz1, hz2⟩ := info_parts info_limb
  have H := Lib.hid h
  have HF := Lib.hid h.fit
  clear h
  have hnil := eql_some_nil (P := Try.prog) w ⟨b, o, none⟩ n c Try.underlying23
  go_enter Try.func72, Try.ntmps72
  go_wp2_with (at_builtin; go_must (refine wpList_append_lim rfl (.tmp 5) (.tmp 6) 23 23 rfl w.heap.size 67 67 i0 Try.underlying23 Try.underlying23 hi hz0 hz1 hz2 (some ⟨w.heap.size, 0, none⟩) 0 0 [] rfl (own_empty w _) _ (some ⟨b, o, none⟩) n c xs rfl ((H.out.more hB).below ((Below.refl _ _).alloc (Nat.le_refl _) _)) (by omega) (by simp) ?_; intro A2 c2 w2 hown hgr; simp only [Nat.zero_add, List.nil_append] at hown))
  go_ret
  obtain ⟨g, rfl, hg, hf⟩ := own_clone hown hn
  exact ⟨g, n, c2, rfl, hg, Lim.of_own hown HF.out, hf, ((Below.refl _ _).alloc (Nat.le_refl _) _).grown hgr (by simp) (fun k hk => by cases hk; exact Nat.le_refl _)⟩

theorem min_gen6 {P : Program} {x y z : Int} (h : min x y = z) (ts : Array TypeId) (ty : TypeId) (W : World) : (Builtin.min_ ts ty #[.int .i64 x, .int .i64 y]).run P W = .ok (.int .i64 z) W := min_gen h ts ty W
theorem max_limb {P : Program} {x z : Nat} (h : max x 1 = z) (ts : Array TypeId) (ty : TypeId) (W : World) : (Builtin.max_ ts ty #[.int .u32 (x : Int), .int .u32 1]).run P W = .ok (.int .u32 (z : Int)) W := by
  rw [run_max_int2]
  have e : (if (1 : Int) > (x : Int) then (1 : Int) else (x : Int)) = (z : Int) := by split <;> omega
  rw [e]
set_option maxRecDepth 100000 in
theorem shortened_same (A : Option Addr) (n c a k : Nat) (w : World) (h : Num w w.heap.size A n c a) (hn : n ≤ 1000000) (hk : min k (n - 1) = 0) (hk2 : k ≤ 1000000) :
    Calls Try.prog 61 #[.slice A n c, .int .i64 (k : Int)] w (RetNum w (shortN a (min k (n - 1)))) := by
  have H := Lib.hid h
  obtain ⟨z, hz⟩ : ∃ z, min (k : Int) ((n : Int) - 1) = z := ⟨_, rfl⟩
  have hz0 : z ≤ 0 := by omega
  have hmn := min_gen (P := Try.prog) hz
  rw [hk, short_none]
  clear h hk
  go_enter Try.func61, Try.ntmps61
  go_wp2
  go_ret
  exact ⟨A, n, c, rfl, H.out, Below.refl _ _⟩

set_option maxRecDepth 100000 in
set_option maxHeartbeats 1000000 in
theorem shortened_cut (b o n c a k m : Nat) (w : World) (h : Num w w.heap.size (some ⟨b, o, none⟩) n c a) (hn : n ≤ 1000000) (hm : min k (n - 1) = m) (hm0 : 0 < m) (hk2 : k ≤ 1000000) :
    Calls Try.prog 61 #[.slice (some ⟨b, o, none⟩) n c, .int .i64 (k : Int)] w (RetNum w (shortN a m)) := by
  have H := Lib.hid h
  have hc := h.cap
  have hr := h.room
  unfold maxLen at hr
  have hz : min (k : Int) ((n : Int) - 1) = (m : Int) := by omega
  have hmn := min_gen (P := Try.prog) hz
  have hml : m < (dg a).length := by rw [h.len]; omega
  have HML := Lib.hid hml
  have HR : Hid (Lim w w.heap.size (some ⟨b, o + m, none⟩) (n - m) (c - m) ((dg a).drop m)) := h.rest (by omega) _ (fun _ => rfl) (fun h => by cases h)
  have HT : Hid (Lim w w.heap.size (some ⟨b, o, none⟩) m c ((dg a).take m)) := h.take (by omega)
  obtain ⟨n', hn'⟩ : ∃ n', n - m = n' := ⟨_, rfl⟩
  obtain ⟨c', hc'⟩ : ∃ c', c - m = c' := ⟨_, rfl⟩
  rw [hn', hc'] at HR
  have q1 : (n : Int) - (m : Int) = (n' : Int) := by omega
  have q2 : (c : Int) - (m : Int) = (c' : Int) := by omega
  have hmn2 : m ≤ n := by omega
  have hn'0 : 0 < n' := by omega
  have HG : Hid (gd (dg a) m < 1000000000) := gd_lt (limbs_dg a) m
  clear h hm hml hz
  go_enter Try.func61, Try.ntmps61
  go_wp2_with fail
  refine (clone_any b (o + m) n' c' w.heap.size ((dg a).drop m) _ HR.out hn'0 (by omega) (Nat.le_refl _)).mono ?_; rintro e w1 ⟨g, n1, c1, rfl, hg, h1, hf, hb⟩
  have hn1 : n1 = n' := by have e1 := h1.len; have e2 := HR.out.len; omega
  subst hn1
  have H1 := Lib.hid h1
  have HB := Lib.hid hb
  have HGG := Lib.hid hg
  clear h1 hb hg
  go_wp2_with fail
  refine (someLimb_any (some ⟨b, o, none⟩) m c w.heap.size ((dg a).take m) _ (HT.out.below HB.out)).mono ?_; rintro e w2 ⟨rfl, rfl⟩
  by_cases h0 : 0 < val ((dg a).take m)
  · rw [decide_eq_true h0]
    obtain ⟨X, hX⟩ : ∃ X, max (gd (dg a) m) 1 = X := ⟨_, rfl⟩
    have hmx := max_limb (P := Try.prog) hX
    have HS : Hid (dg (shortN a m) = ((dg a).drop m).set 0 X) := by have := short_yes HML.out h0; rwa [hX] at this
    have HX4 : Hid (X < 4294967296) := by show _ < _; have := HG.out; omega
    obtain ⟨b', o', he, hbb, hc0⟩ := H1.out.at_ hn'0
    injection he with he
    injection he with e1 e2 e3
    subst e1; subst e2
    rw [gd_drop, Nat.add_zero] at hc0
    have hgs : g < w1.heap.size := hbb
    clear h0 hX hbb e3
    go_wp2_with fail
    go_ret
    refine ⟨some ⟨g, 0, none⟩, n1, c1, rfl, ?_, HB.out.setCell (p := ⟨g, 0, none⟩) HGG.out _⟩
    rw [HS.out]
    have := H1.out.put (x := X) HX4.out hn'0
    simpa using this
  · have h0' : val ((dg a).take m) = 0 := by omega
    have HS : Hid (dg (shortN a m) = (dg a).drop m) := short_no HML.out h0'
    rw [decide_eq_false h0]
    clear h0 h0'
    go_wp2_with fail
    go_ret
    exact ⟨some ⟨g, 0, none⟩, n1, c1, rfl, by rw [HS.out]; exact H1.out, HB.out⟩

theorem shortened_is {A : Option Addr} {n c a k x : Nat} {v : Int} {w : World} (h : Num w w.heap.size A n c a) (hn : n ≤ 1000000) (hv : v = (k : Int)) (hk2 : k ≤ 1000000) (hx : shortN a (min k (n - 1)) = x) :
    Calls Try.prog 61 #[.slice A n c, .int .i64 v] w (RetNum w x) := by
  subst hv; subst hx
  rcases Nat.eq_zero_or_pos (min k (n - 1)) with h0 | h0
  · exact shortened_same A n c a k w h hn h0 hk2
  · obtain ⟨b, o, rfl, _, _⟩ := h.at_ (k := 0) (by omega)
    exact shortened_cut b o n c a k _ w h hn rfl h0 hk2

end Go.Proofs.Ytllcjahekckbfaa
