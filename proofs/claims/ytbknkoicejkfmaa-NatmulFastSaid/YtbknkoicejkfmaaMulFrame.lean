/-
  How a slice of numbers comes in: it reads as places of limbs.
-/
import Derived.Test.YtbknkoicejkfmaaNatFrame
import Derived.Test.YtbknkoicejkfmaaMulL
namespace Go.Proofs.Ytbknkoicejkfmaa
open Go.ChangeShapes Go.WideShapes Go.ChangeAt Go.RowKit

theorem lims_came {H : Type} {enc : TypeId × Value → H} {W : World} {t fuel len cap : Nat} {a0 : Option Addr} {d : DataW H} {p : List MemPlace} (ht : Try.prog.underlying t = some (.slice 23))
    (hf : DataW.trod enc Try.prog W 0 (fun _ => true) true fuel t (Value.slice a0 len cap).cells.toList = some (d, p)) : ∃ qs, Hid (Lims W W.heap.size a0 len cap qs) := by
  rcases DataW.trod_slice ht hf with ⟨hcs, _⟩ | ⟨a, l, c, elems, rest, n, _, hcs, _, hb, hl, hm, hlen, hel, _, _⟩
  · simp [Value.cells] at hcs
    obtain ⟨rfl, rfl, rfl⟩ := hcs
    exact ⟨[], Lims.nil _ _⟩
  · simp [Value.cells] at hcs
    obtain ⟨rfl, rfl, rfl⟩ := hcs
    have hc1 : Try.prog.cellsOf 23 = 1 := by kernel_rfl
    have each : ∀ i, ∃ q : Spot, i < len → W.cell? (a.add i) = some q.val ∧ Lim W W.heap.size q.1 q.2.1 q.2.2.1 q.2.2.2 := by
      intro i
      by_cases hi : i < len
      · have h0 := hel i hi
        rw [hc1, Nat.mul_one, List.getElem?_eq_getElem (by omega), Option.bind_eq_some_iff] at h0
        obtain ⟨cs', hcs, hy⟩ := h0
        rcases DataW.trod_slice Try.underlying23 hy with ⟨rfl, _⟩ | ⟨a', l', c', _, _, _, _, rfl, _⟩
        · exact ⟨(none, 0, 0, []), fun _ => ⟨cell_of_cells?_one hcs, Lim.nil⟩⟩
        · obtain ⟨xs, hxs⟩ := lim_came (d := (elems[i]).1) (p := (elems[i]).2) (a0 := some a') (len := l') (cap := c') Try.underlying23 hy
          exact ⟨(some a', l', c', xs), fun _ => ⟨cell_of_cells?_one hcs, hxs.out⟩⟩
      · exact ⟨(none, 0, 0, []), fun h => absurd h hi⟩
    obtain ⟨f, hf⟩ := Classical.axiomOfChoice each
    refine ⟨(List.range len).map f, ?_⟩
    refine ⟨by simp, hl, hm, ?_, ?_⟩
    · rcases Nat.eq_zero_or_pos len with h0 | h0
      · subst h0; left; simp [spots]
      · have hc0 := (hf 0 h0).1
        obtain ⟨b, o, s⟩ := a
        have hs : s = none := by simpa [Addr.add] using World.cell?_spot hc0
        subst hs
        refine .inr ⟨b, o, rfl, by simpa [Addr.add] using World.block_lt_of_cell? W _ hc0, fun j u hu => ?_⟩
        have hj : j < len := by
          have := (List.getElem?_eq_some_iff.1 hu).1
          simpa [spots] using this
        have hc := (hf j hj).1
        rw [Addr.add_lit] at hc
        rw [hc, ← hu]
        simp [spots, hj]
    · intro q hq
      obtain ⟨i, hi, rfl⟩ := List.mem_map.1 hq
      exact (hf i (List.mem_range.1 hi)).2

end Go.Proofs.Ytbknkoicejkfmaa
