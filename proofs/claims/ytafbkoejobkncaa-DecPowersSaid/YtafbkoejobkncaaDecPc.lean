/-
  How an argument of [2]uint8 comes.
-/
import Derived.Test.YtafbkoejobkncaaDecFrame
set_option linter.unusedVariables false
set_option linter.unusedSimpArgs false
namespace Go.Proofs.Ytafbkoejobkncaa
open Go.ChangeShapes Go.WideShapes Go.ChangeAt Go.RowKit Go.Joins

set_option maxRecDepth 100000 in
/-- An array of two bytes. -/
theorem bytes_came {H : Type} {enc : TypeId × Value → H} {W : World} {base : Nat} {v : Value} {d : DataW H} {p : List MemPlace} (hv : Value.okWide Try.prog W .any base 44 v)
    (h : DataW.Trod enc Try.prog W 0 (fun _ => true) true 44 v d p) : ∃ y z : Int, v = .agg #[.int .u8 y, .int .u8 z] ∧ (0 ≤ y ∧ y ≤ 255) ∧ (0 ≤ z ∧ z ≤ 255) := by
  obtain ⟨cs, rfl, hsz⟩ : ∃ cs, v = .agg cs ∧ cs.size = Try.prog.cellsOf 44 := by
    simp only [Value.okWide, Try.underlying44] at hv
    obtain ⟨cs, e1, e2, _⟩ := hv
    exact ⟨cs, e1, e2⟩
  obtain ⟨c0, c1, rfl⟩ := array2 (hsz.trans (by kernel_rfl))
  obtain ⟨fuel, hf⟩ := h
  obtain ⟨xs, m, _, _, _, hl, hh⟩ := DataW.trod_array Try.underlying44 hf
  have e : Try.prog.cellsOf 5 = 1 := by kernel_rfl
  have h0 := hh 0 (by omega)
  have h1 := hh 1 (by omega)
  rw [e, List.getElem?_eq_getElem (by omega)] at h0 h1
  obtain ⟨y, hy, _, wy⟩ := DataW.trod_int Try.underlying5 h0
  obtain ⟨z, hz, _, wz⟩ := DataW.trod_int Try.underlying5 h1
  have qy : c0 = .int .u8 y := by simpa [Value.cells] using hy
  have qz : c1 = .int .u8 z := by simpa [Value.cells] using hz
  clear hy hz hh h0 h1 hf hv hsz
  subst qy; subst qz
  exact ⟨y, z, rfl, bounds_u8 wy, bounds_u8 wz⟩

end Go.Proofs.Ytafbkoejobkncaa
