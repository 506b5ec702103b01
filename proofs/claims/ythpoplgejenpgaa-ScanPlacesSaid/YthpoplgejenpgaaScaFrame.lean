/-
  Layer 10: how a slice of texts comes in.
-/
import Derived.Test.YthpoplgejenpgaaScaV
import Derived.Test.YthpoplgejenpgaaRows
import Derived.ProofKit
import Derived.OpenShut
import Derived.ShutString
import Derived.ChangeOld
set_option linter.unusedVariables false
set_option linter.unusedSimpArgs false
namespace Go.Proofs.Ythpoplgejenpgaa
open Go.ChangeShapes Go.WideShapes Go.ChangeAt Go.RowKit

theorem knob10 : ownKnob Try.prog.godebug = none := by kernel_rfl
theorem laidOut10 : laidOutB Try.prog = true := by kernel_rfl

set_option maxRecDepth 100000 in
theorem strs_came {H : Type} {enc : TypeId × Value → H} {W : World} {t fuel len cap : Nat} {a0 : Option Addr} {d : DataW H} {p : List MemPlace} (ht : Try.prog.underlying t = some (.slice 9))
    (hf : DataW.trod enc Try.prog W 0 (fun _ => true) true fuel t (Value.slice a0 len cap).cells.toList = some (d, p)) : ∃ ss, Hid (RdS W a0 len cap ss) := by
  rcases DataW.trod_slice ht hf with ⟨hcs, _⟩ | ⟨a, l, c, elems, rest, n, _, hcs, _, hb, hl, hm, hlen, hel, _, _⟩
  · simp [Value.cells] at hcs
    obtain ⟨rfl, rfl, rfl⟩ := hcs
    exact ⟨[], show RdS _ _ _ _ _ from ⟨rfl, Nat.le_refl _, Nat.zero_le _, .inl rfl⟩⟩
  · simp [Value.cells] at hcs
    obtain ⟨rfl, rfl, rfl⟩ := hcs
    have hc1 : Try.prog.cellsOf 9 = 1 := by kernel_rfl
    have each : ∀ i, ∃ u : ByteArray, i < len → W.cell? (a.add i) = some (.string u) := by
      intro i
      by_cases hi : i < len
      · have h0 := hel i hi
        rw [hc1, Nat.mul_one, List.getElem?_eq_getElem (by omega), Option.bind_eq_some_iff] at h0
        obtain ⟨cs', hcs, hy⟩ := h0
        obtain ⟨u, hu, _⟩ := DataW.trod_string Try.underlying9 hy
        subst hu
        exact ⟨u, fun _ => cell_of_cells?_one hcs⟩
      · exact ⟨⟨#[]⟩, fun h => absurd h hi⟩
    obtain ⟨f, hf⟩ := Classical.axiomOfChoice each
    refine ⟨(List.range len).map f, show RdS _ _ _ _ _ from ⟨by simp, hl, hm, ?_⟩⟩
    rcases Nat.eq_zero_or_pos len with h0 | h0
    · subst h0; left; rfl
    · have hc0 := hf 0 h0
      obtain ⟨b, o, s⟩ := a
      have hs : s = none := by simpa [Addr.add] using World.cell?_spot hc0
      subst hs
      refine .inr ⟨b, o, rfl, by simpa [Addr.add] using World.block_lt_of_cell? W _ hc0, fun j u hu => ?_⟩
      have hj : j < len := by
        have := (List.getElem?_eq_some_iff.1 hu).1
        simpa using this
      have hc := hf j hj
      rw [Addr.add_lit] at hc
      rw [hc]
      rw [List.getElem?_map, List.getElem?_range hj] at hu
      exact congrArg (fun q => some (Value.string q)) (Option.some.inj hu)

end Go.Proofs.Ythpoplgejenpgaa
