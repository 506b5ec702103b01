/- DecPowers answers true for every input: powers of a right decimal, not too long, are the document's own, and a power of two exponents together is the product of both; of any right decimals, not too long, the least and the greatest are the document's own, and none is below the least or above the greatest; what lies between is the document's own. No condition. -/
import Derived.Test.YtafbkoejobkncaaDecFrame
import Derived.Test.YtafbkoejobkncaaDecPb
import Derived.Test.YtafbkoejobkncaaDecPc
set_option linter.unusedVariables false
set_option linter.unusedSimpArgs false
namespace Go.Proofs.Ytafbkoejobkncaa.DecPowersLaw
open Go.ChangeShapes Go.WideShapes Go.ChangeAt Go.RowKit

set_option maxRecDepth 100000 in
theorem lifted (os : Os) (started : os.Started) (H : Type) (enc : TypeId × Value → H) :
    ReturnsInHanded {} Try.checked os 7 .any (Rows.decPowersSpec.pre6 enc Try.prog Try.f7 Rows.decPowersRow.domain false) (Rows.decPowersSpec.post enc Try.prog Try.f7 false true false false) := by
  refine returnsInHanded_of_change (C := Try.checked) knob_none started (by kernel_rfl) Try.func7
    (ChangeSpec.witness6 (enc := enc) (C := Try.checked) false ⟨#[], #[.agg #[.bool false, .slice none 0 0, .int .i64 0], .slice none 0 0, .agg #[.int .u8 0, .int .u8 0]], []⟩ 8 (by kernel_rfl) (by kernel_rfl) (by kernel_rfl) (by kernel_rfl)) ?_
  intro W base args ds gs before hval0 hW hcnd _
  have hval : ∀ (j : Nat) t v, Try.f7.params[j]? = some t → args[j]? = some v → Value.okWide Try.prog W .any base t v := hval0
  have hW' := hW
  obtain ⟨p, q, hA0, hV, rfl, hfz, hnd⟩ := hW
  have hA : DataW.TrodAll enc Try.prog W 0 (fun _ => true) true Try.f7.params.toList args.toList ds p := hA0
  rw [Try.params7] at hA hval
  obtain ⟨v0, v1, v2, d0, d1, d2, p0, p1, p2, rfl, rfl, rfl, h0, h1, h2⟩ := trodAll_three hA
  obtain ⟨rfl, rfl⟩ := trodVars_none hV
  obtain ⟨b0, a0, l0, c0, x0, q0, rfl, w0⟩ := dec_came (hval 0 25 v0 rfl rfl) h0
  have k0 := h0
  have lt0 : ∀ x ∈ p0, x.block < W.heap.size := (by obtain ⟨f0, g0⟩ := h0; exact DataW.trod_lt f0 _ _ _ g0)
  obtain ⟨a1, l1, c1, rfl⟩ := okWide_slice Try.underlying40 (hval 1 40 v1 rfl rfl)
  obtain ⟨r1, w1⟩ := (by obtain ⟨f1, g1⟩ := h1; exact decs_came Try.underlying40 g1 : ∃ r, Hid (Raws W W.heap.size a1 l1 c1 r))
  have k1 := h1
  have lt1 : ∀ x ∈ p1, x.block < W.heap.size := (by obtain ⟨f1, g1⟩ := h1; exact DataW.trod_lt f1 _ _ _ g1)
  obtain ⟨y2, z2, rfl, gy2, gz2⟩ := bytes_came (hval 2 44 v2 rfl rfl) h2
  have k2 := h2
  have lt2 : ∀ x ∈ p2, x.block < W.heap.size := (by obtain ⟨f2, g2⟩ := h2; exact DataW.trod_lt f2 _ _ _ g2)
  clear hA0 hval0
  refine (powers5_any b0 a0 l0 c0 x0 q0 a1 l1 c1 r1 y2 z2 W w0.out w1.out gy2 gz2).mono fun e W' ⟨he, bel⟩ => ?_
  subst he
  exact ⟨_, rfl, _, _, _, [], _, [], hW', trodAll_mk1 (shut_bool Try.underlying4 _), trodAll_mk3 (Below.trod laid_out (by kernel_rfl) (of_decide_eq_true (by kernel_rfl)) k0 bel lt0) (Below.trod laid_out (by kernel_rfl) (of_decide_eq_true (by kernel_rfl)) k1 bel lt1) (Below.trod laid_out (by kernel_rfl) (of_decide_eq_true (by kernel_rfl)) k2 bel lt2), rfl, bel.frame _, fun h => by cases h⟩

theorem powers_holds : Rows.DecPowersSaid :=
  OpenClaim.holds_of_wide 7 Try.f7 rfl rfl rfl rfl rfl rfl rfl ⟨rfl, rfl, rfl, rfl, rfl⟩ rfl rfl rfl rfl rfl (by kernel_rfl) Try.func7 (by kernel_rfl)
    (of_decide_eq_true (by kernel_rfl)) (by unfold Func.isWrapper; first | (rw [if_pos (by decide +kernel)]; kernel_rfl) | (rw [if_neg (by decide +kernel)]; exact ⟨rfl, rfl⟩))
    (fun os started H enc _ => lifted os started H enc)

end Go.Proofs.Ytafbkoejobkncaa.DecPowersLaw
