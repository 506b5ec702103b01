/-
  The contract of mostFirst.
-/
import Derived.Test.YtllcjahekckbfaaRouJ
set_option linter.unusedVariables false
set_option linter.unusedSimpArgs false
namespace Go.Proofs.Ytllcjahekckbfaa
open Go.RowKit

/-- What mostFirst hands back: the places in the order of r, in memory of its own. -/
def RetPlaces (W : World) (r : Nat → Int) (n : Nat) (e : Ending) (w' : World) : Prop :=
  ∃ g zs, e = .returned (.slice (some ⟨g, 0, none⟩) n n) ∧ W.heap.size ≤ g ∧ OwnI w' g zs ∧ zs.length = n ∧ Srt r zs n ∧ Below W.heap.size W w'

set_option maxRecDepth 100000 in
set_option maxHeartbeats 8000000 in
theorem most_any (r : Nat → Int) (L S : Nat) (A : Option Addr) (n c : Nat) (d : Nat → Int × Nat) (p : Nat → Option Addr × Nat × Nat) (w : World) (h : DecsG L S w w.heap.size A n c d p) (hL : L ≤ 1000000) (hS : S ≤ 100000) (hr : Keyed r d n) (hn0 : 0 < n) (hn : n < 20) :
    Calls Try.prog 32 #[.slice A n c] w (RetPlaces w r n) := by
  obtain ⟨i0, hi, hz0, hz1, hz2⟩ := info_parts info_int
  have H := Lib.hid h
  have HR := Lib.hid hr
  clear h hr
  go_enter Try.func32, Try.ntmps32
  obtain ⟨W0, hW⟩ : ∃ W0, w.alloc (.cells #[.slice A n c] 26) = W0 := ⟨_, rfl⟩
  have hb0 : Below w.heap.size w W0 := by rw [← hW]; exact (Below.refl _ _).alloc (Nat.le_refl _) _
  have hbx : W0.cell? ⟨w.heap.size, 0, none⟩ = some (.slice A n c) := by rw [← hW]; simp [go_sem]
  have HSZ : Hid (w.heap.size < W0.heap.size) := by show _ < _; rw [← hW]; simp
  have HB := Lib.hid hb0
  clear hb0
  go_wp2_with (at_make; (try rw [hW]); go_must (refine wpList_make_full _ rfl _ _ 57 rfl W0.heap.size 3 i0 (.int .i64 0) 1 Try.underlying57 hi hz0 hz1 _ _ _ _ n rfl rfl (by omega) (by omega) (by rw [hz2]; omega) (by unfold maxLen; omega) (Nat.le_refl _) ?_; intro w3 hown1 hgr1; have O3 : Hid (OwnI w3 W0.heap.size (List.replicate n 0)) := OwnI.of_made hown1; have HB3 : Hid (Below W0.heap.size W0 w3) := (Below.refl _ _).grown hgr1 (Nat.le_refl _) (fun k hk => by cases hk); clear hown1 hgr1))
  clear hW
  go_loopw [10] (fun iv wr => ∃ (i : Nat) (zs : List Nat), i ≤ n ∧ iv = .int .i64 i ∧ zs.length = n ∧ (∀ j, j < i → gd zs j = j) ∧ OwnI wr W0.heap.size zs ∧ Below W0.heap.size W0 wr) (fun iv _ => n - (intOf iv).toNat)
  case atStart => exact ⟨0, List.replicate n 0, Nat.zero_le _, rfl, by simp, fun j hj => by omega, O3.out, HB3.out⟩
  case round =>
    obtain ⟨i, zs, hin, rfl, hlen, hid, hown, hb⟩ := hrel
    clear O3 HB3
    have OW := Lib.hid hown
    have HI := Lib.hid hid
    have HC := Lib.hid hb
    have LN := Lib.hid hlen
    clear hown hid hb hlen
    rcases Nat.lt_or_ge i n with hlt | hge
    · have c1 := OW.out.cell (i := i) (by rw [LN.out]; omega)
      have f1 := OW.out.frozen i
      go_wp2
      go_roundw
      case rel => exact ⟨i + 1, zs.set i i, by omega, by go_num, by rw [List.length_set, LN.out], fun j hj => by
          rw [gd_set _ _ _ _ (by rw [LN.out]; omega)]
          split
          · omega
          · exact HI.out j (by omega), OW.out.store i i _ rfl, HC.out.setCell (p := ⟨W0.heap.size, i, none⟩) (Nat.le_refl _) _⟩
      case measure => simp [intOf]; omega
    · obtain rfl : i = n := by omega
      have DG := Lib.hid ((H.out.on HB.out).below HC.out)
      have hbr : wr.cell? ⟨w.heap.size, 0, none⟩ = some (.slice A i c) := cell_on hbx HC.out
      go_wp2_with fail
      refine (sortStable_any r L S A i c W0.heap.size w.heap.size zs d p wr DG.out hL hS HR.out hbr HSZ.out OW.out LN.out HI.out hn0 hn).mono ?_; rintro e w1 ⟨rfl, ⟨zs', ho, hl, hs⟩, hb⟩
      have HO := Lib.hid ho
      have HL := Lib.hid hl
      have HS := Lib.hid hs
      have HB4 : Hid (Below w.heap.size w w1) := HB.out.trans ((HC.out.trans hb).mono HB.out.size)
      clear ho hl hs hb
      go_wp2_with fail
      go_ret
      exact ⟨W0.heap.size, zs', rfl, HB.out.size, HO.out, HL.out, HS.out, HB4.out⟩

end Go.Proofs.Ytllcjahekckbfaa
