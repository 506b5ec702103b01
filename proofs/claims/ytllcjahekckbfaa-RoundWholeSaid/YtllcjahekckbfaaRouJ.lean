/-
  The places of a row, that of the greatest first: the contracts.
-/
import Derived.Test.YtllcjahekckbfaaRouI
set_option linter.unusedVariables false
set_option linter.unusedSimpArgs false
namespace Go.Proofs.Ytllcjahekckbfaa
open Go.RowKit

/-- The comparison tells the order of r. -/
def Keyed (r : Nat → Int) (d : Nat → Int × Nat) (n : Nat) : Prop := ∀ x y, x < n → y < n → (cmpD (d y).1 (d y).2 (d x).1 (d x).2 < 0 ↔ r y < r x)

theorem two_on {w w' : World} {a0 a1 : Addr} {v0 v1 : Value} (h : Hid (w.cell? a0 = some v0 ∧ w.cell? a1 = some v1)) (hb : Below w.heap.size w w') :
    Hid (w'.cell? a0 = some v0 ∧ w'.cell? a1 = some v1) := ⟨cell_on h.out.1 hb, cell_on h.out.2 hb⟩

set_option maxRecDepth 100000 in
set_option maxHeartbeats 8000000 in
theorem insert_any (r : Nat → Int) (L S : Nat) (A : Option Addr) (n c g g2 : Nat) (zs : List Nat) (d : Nat → Int × Nat) (p : Nat → Option Addr × Nat × Nat) (w : World) (hD : DecsG L S w g A n c d p) (hL : L ≤ 1000000) (hS : S ≤ 100000) (hr : Keyed r d n) (hg : w.cell? ⟨g2, 0, none⟩ = some (.slice A n c)) (hg2 : g2 < g)
    (ho : OwnI w g zs) (hlen : zs.length = n) (hid : ∀ k, k < n → gd zs k = k) (hn0 : 0 < n) (hn : n < 20) :
    Calls Try.prog 79 #[.slice (some ⟨g, 0, none⟩) n n, .int .i64 0, .int .i64 (n : Int), .func (.func 50) #[] #[.pointer (some ⟨g2, 0, none⟩)]] w fun e w' => e = .returned (.tuple #[]) ∧ (∃ zs' : List Nat, OwnI w' g zs' ∧ zs'.length = n ∧ Srt r zs' n) ∧ Below g w w' := by
  have HD := Lib.hid hD
  have HR := Lib.hid hr
  have OW0 := Lib.hid ho
  have LN0 := Lib.hid hlen
  have HI0 := Lib.hid hid
  clear hD hr ho hlen hid
  go_enter Try.func79, Try.ntmps79
  go_wp2_with fail
  go_loopw [8] (fun iv wr => ∃ (i : Nat) (zs : List Nat), 1 ≤ i ∧ i ≤ n ∧ iv = .int .i64 i ∧ zs.length = n ∧ Srt r zs i ∧ (∀ k, i ≤ k → k < n → gd zs k = k) ∧ OwnI wr g zs ∧ Below g w wr) (fun iv _ => n - (intOf iv).toNat)
  case atStart => exact ⟨1, zs, by omega, by omega, by go_num, LN0.out, ⟨fun a ha => by rw [HI0.out a (by omega)]; exact ha, fun a b h1 h2 => by omega⟩, fun k _ hk => HI0.out k hk, OW0.out, Below.refl _ _⟩
  case round =>
    obtain ⟨i, zs, hi1, hin, rfl, hlen, hsrt, hrest, hown, hb⟩ := hrel
    clear HI0 LN0 OW0
    have OW := Lib.hid hown
    have SR := Lib.hid hsrt
    have RS := Lib.hid hrest
    have HB := Lib.hid hb
    have LN := Lib.hid hlen
    clear hown hsrt hrest hb hlen
    rcases Nat.lt_or_ge i n with hlt | hge
    · obtain ⟨wo, rfl⟩ : ∃ wo : World, wo = wr := ⟨_, rfl⟩
      go_wp2_with fail
      go_loopw [9] (fun jv wr => ∃ (j : Nat) (zs : List Nat), jv = .int .i64 j ∧ zs.length = n ∧ Ins r zs i j ∧ (∀ k, i < k → k < n → gd zs k = k) ∧ OwnI wr g zs ∧ Below g w wr) (fun jv _ => (intOf jv).toNat)
      case atStart => exact ⟨i, zs, rfl, LN.out, ins_start SR.out (RS.out i (Nat.le_refl _) hlt), fun k h1 h2 => RS.out k (by omega) h2, OW.out, HB.out⟩
      case round =>
        obtain ⟨j, us, rfl, hlen, hins, hrest, hown, hb⟩ := hrel
        clear OW SR RS HB LN
        have hji := hins.1
        have OU := Lib.hid hown
        have IN := Lib.hid hins
        have RU := Lib.hid hrest
        have HC := Lib.hid hb
        have LU := Lib.hid hlen
        clear hown hins hrest hb hlen
        rcases Nat.eq_zero_or_pos j with hj0 | hj0
        · subst hj0
          go_wp2_with fail
          go_quiet ((fail))
          go_wp2_with fail
          go_roundw
          case rel => exact ⟨i + 1, us, by omega, by omega, by go_num, LU.out, ins_end0 IN.out, fun k h1 h2 => RU.out k (by omega) h2, OU.out, below_drewN HC.out _⟩
          case measure => simp [intOf]; omega
        · obtain ⟨m, hm⟩ : ∃ m, j = m + 1 := ⟨j - 1, by omega⟩
          have hw : IntKind.i64.wrap ((j : Int) - 1) = (m : Int) := (IntWalk.i64_in _ ⟨by omega, by omega⟩).trans (by omega)
          have i1 : (0 : Int) ≤ (j : Int) := by omega
          have i2 : (j : Int) < (n : Int) := by omega
          have i3 : (0 : Int) ≤ (m : Int) := by omega
          have i4 : (m : Int) < (n : Int) := by omega
          have c1 := OU.out.cell (i := j) (by rw [LU.out]; omega)
          have c2 := OU.out.cell (i := m) (by rw [LU.out]; omega)
          have hgj : gd us j = i := IN.out.2.1
          have hgm : gd us m < i := IN.out.2.2.1 m (by omega) (by omega)
          rw [hgj] at c1
          obtain ⟨y, hy⟩ : ∃ y, y = gd us m := ⟨_, rfl⟩
          rw [← hy] at c2 hgm
          have HY := Lib.hid hy
          have HGJ := Lib.hid hgj
          have HM := Lib.hid hm
          have hk := HR.out i y (by omega) (by omega)
          have D2 := Lib.hid ((HD.out.below HC.out).more (Nat.le_of_lt OU.out.lt))
          have hbx := (HC.out.cell (p := ⟨g2, 0, none⟩) hg2).trans hg
          have K := Lib.hid hbx
          clear hy hgj hbx hm
          by_cases hlt2 : r y < r i
          · have hneg : cmpD (d y).1 (d y).2 (d i).1 (d i).2 < 0 := hk.2 hlt2
            clear hk
            obtain ⟨z, hz⟩ : ∃ z, z = cmpD (d y).1 (d y).2 (d i).1 (d i).2 := ⟨_, rfl⟩
            rw [← hz] at hneg
            have HZ := Lib.hid hz
            have HLT := Lib.hid hlt2
            clear hz hlt2
            have P2 := two_on (Lib.hid ⟨c1, c2⟩) (Below.refl wr.heap.size wr).drew
            clear c1 c2
            go_wp2_with fail
            go_region_held3 (fun v => v.cell? ⟨g, j, none⟩ = some (.int .i64 ((i : Nat) : Int)) ∧ v.cell? ⟨g, m, none⟩ = some (.int .i64 ((y : Nat) : Int))) (with_reducible exact P2.out)
              (first | (go_at_call 50; refine (most1_any L S A n c g2 i y d p wr.drew (D2.out.on (Below.refl _ _).drew) hL hS K.out (by omega) (by omega)).mono ?_; rintro e w2 ⟨rfl, hb1⟩; rw [← HZ.out]; have HC2 := Lib.hid ((Below.refl wr.heap.size wr).drew.trans hb1); replace P2 := two_on P2 hb1; clear hb1))
            all_goals
              have OU2 := Lib.hid (OU.out.on HC2.out)
              obtain ⟨e1, e2⟩ := P2.out
              have f1 := OU2.out.frozen j
              have f2 := OU2.out.frozen m
              have e3 : (w2.setCell ⟨g, j, none⟩ (.int .i64 (y : Int))).cell? ⟨g, m, none⟩ = some (.int .i64 (y : Int)) := by rw [World.cell?_setCell_other _ _ _ _ (by simp only [ne_eq, Addr.mk.injEq]; have := HM.out; omega)]; exact e2
              have HB2 : Hid (Below g w w2) := HC.out.trans (HC2.out.mono (Nat.le_of_lt OU.out.lt))
              go_wp2_with fail
              go_region
              all_goals
                go_wp2
                go_roundw
                case rel =>
                  have e : swp us j m = (us.set j y).set m i := by unfold swp; rw [← HY.out, HGJ.out]
                  refine ⟨m, (us.set j y).set m i, by go_num, by rw [List.length_set, List.length_set, LU.out], by rw [← e, HM.out]; exact ins_step (by rw [← HM.out]; exact IN.out) (by rw [LU.out]; omega) (by rw [← HY.out]; exact HLT.out), fun k h1 h2 => ?_, ((OU2.out.store j y _ rfl).store m i _ rfl).drew, ((HB2.out.setCell (p := ⟨g, j, none⟩) (Nat.le_refl _) _).setCell (p := ⟨g, m, none⟩) (Nat.le_refl _) _).drew⟩
                  have hjm := HM.out
                  rw [← e, gd_swp (by rw [LU.out]; omega) (by rw [LU.out]; omega), if_neg (by omega), if_neg (by omega)]
                  exact RU.out k h1 h2
                case measure => simp [intOf]; have := HM.out; omega
          · have hneg : ¬ cmpD (d y).1 (d y).2 (d i).1 (d i).2 < 0 := fun h => hlt2 (hk.1 h)
            clear hk
            obtain ⟨z, hz⟩ : ∃ z, z = cmpD (d y).1 (d y).2 (d i).1 (d i).2 := ⟨_, rfl⟩
            rw [← hz] at hneg
            have HZ := Lib.hid hz
            have HLT := Lib.hid hlt2
            clear hz hlt2
            have P2 := two_on (Lib.hid ⟨c1, c2⟩) (Below.refl wr.heap.size wr).drew
            clear c1 c2
            go_wp2_with fail
            go_region_held3 (fun v => v.cell? ⟨g, j, none⟩ = some (.int .i64 ((i : Nat) : Int)) ∧ v.cell? ⟨g, m, none⟩ = some (.int .i64 ((y : Nat) : Int))) (with_reducible exact P2.out)
              (first | (go_at_call 50; refine (most1_any L S A n c g2 i y d p wr.drew (D2.out.on (Below.refl _ _).drew) hL hS K.out (by omega) (by omega)).mono ?_; rintro e w2 ⟨rfl, hb1⟩; rw [← HZ.out]; have HC2 := Lib.hid ((Below.refl wr.heap.size wr).drew.trans hb1); replace P2 := two_on P2 hb1; clear hb1))
            all_goals
              have OU2 := Lib.hid (OU.out.on HC2.out)
              have HB2 : Hid (Below g w w2) := HC.out.trans (HC2.out.mono (Nat.le_of_lt OU.out.lt))
              go_wp2_with fail
              go_roundw
              case rel => exact ⟨i + 1, us, by omega, by omega, by go_num, LU.out, ins_end (m := m) (by rw [← HM.out]; exact IN.out) (by rw [← HY.out]; intro h; have := HLT.out; omega), fun k h1 h2 => RU.out k (by omega) h2, OU2.out, HB2.out⟩
              case measure => simp [intOf]; omega
    · obtain rfl : i = n := by omega
      go_wp2_with fail
      go_end0
      exact ⟨rfl, ⟨zs, OW.out, LN.out, SR.out⟩, HB.out⟩

set_option maxRecDepth 100000 in
set_option maxHeartbeats 8000000 in
theorem stable_any (r : Nat → Int) (L S : Nat) (A : Option Addr) (n c g g2 : Nat) (zs : List Nat) (d : Nat → Int × Nat) (p : Nat → Option Addr × Nat × Nat) (w : World) (hD : DecsG L S w g A n c d p) (hL : L ≤ 1000000) (hS : S ≤ 100000) (hr : Keyed r d n) (hg : w.cell? ⟨g2, 0, none⟩ = some (.slice A n c)) (hg2 : g2 < g)
    (ho : OwnI w g zs) (hlen : zs.length = n) (hid : ∀ k, k < n → gd zs k = k) (hn0 : 0 < n) (hn : n < 20) :
    Calls Try.prog 67 #[.slice (some ⟨g, 0, none⟩) n n, .int .i64 (n : Int), .func (.func 50) #[] #[.pointer (some ⟨g2, 0, none⟩)]] w fun e w' => e = .returned (.tuple #[]) ∧ (∃ zs' : List Nat, OwnI w' g zs' ∧ zs'.length = n ∧ Srt r zs' n) ∧ Below g w w' := by
  have HC := Lib.hid (insert_any r L S A n c g g2 zs d p w hD hL hS hr hg hg2 ho hlen hid hn0 hn)
  clear hD hr ho hlen hid
  go_enter Try.func67, Try.ntmps67
  go_wp2_with fail
  refine wp_loop_rounds 1 ?_; rw [rounds_succ]
  go_wp2_with fail
  refine HC.out.mono ?_; rintro e w1 ⟨rfl, hz, hb⟩
  have HZ := Lib.hid hz
  clear hz
  go_wp2_with fail
  refine wp_loop_rounds 1 ?_; rw [rounds_succ]
  go_wp2_with fail
  go_end0
  exact ⟨rfl, HZ.out, hb⟩

set_option maxRecDepth 100000 in
set_option maxHeartbeats 8000000 in
theorem sortStable_any (r : Nat → Int) (L S : Nat) (A : Option Addr) (n c g g2 : Nat) (zs : List Nat) (d : Nat → Int × Nat) (p : Nat → Option Addr × Nat × Nat) (w : World) (hD : DecsG L S w g A n c d p) (hL : L ≤ 1000000) (hS : S ≤ 100000) (hr : Keyed r d n) (hg : w.cell? ⟨g2, 0, none⟩ = some (.slice A n c)) (hg2 : g2 < g)
    (ho : OwnI w g zs) (hlen : zs.length = n) (hid : ∀ k, k < n → gd zs k = k) (hn0 : 0 < n) (hn : n < 20) :
    Calls Try.prog 49 #[.slice (some ⟨g, 0, none⟩) n n, .func (.func 50) #[] #[.pointer (some ⟨g2, 0, none⟩)]] w fun e w' => e = .returned (.tuple #[]) ∧ (∃ zs' : List Nat, OwnI w' g zs' ∧ zs'.length = n ∧ Srt r zs' n) ∧ Below g w w' := by
  have HC := Lib.hid (stable_any r L S A n c g g2 zs d p w hD hL hS hr hg hg2 ho hlen hid hn0 hn)
  clear hD hr ho hlen hid
  go_enter Try.func49, Try.ntmps49
  go_wp2_with fail
  refine HC.out.mono ?_; rintro e w1 ⟨rfl, hz, hb⟩
  have HZ := Lib.hid hz
  clear hz
  go_wp2_with fail
  go_end0
  exact ⟨rfl, HZ.out, hb⟩

end Go.Proofs.Ytllcjahekckbfaa
