/- RoundWhole answers true for every input: of a right total, not too long, quantized, and of at most twelve right parts, not too long, none below nought, Allocate makes shares of the scale asked for that sum to the total, each less than one unit off the part's own share, and nought for a part of nought; of parts that are all nought nothing is allocated. No condition. -/
import Derived.Test.YtllcjahekckbfaaAllDecE
import Derived.Test.YtllcjahekckbfaaAllDecG
import Derived.Test.YtllcjahekckbfaaRouZ
set_option linter.unusedVariables false
set_option linter.unusedSimpArgs false
namespace Go.Proofs.Ytllcjahekckbfaa.RouWholeLaw
open Go.ChangeShapes Go.WideShapes Go.ChangeAt Go.RowKit

set_option maxRecDepth 100000 in
theorem lifted (os : Os) (started : os.Started) (H : Type) (enc : TypeId × Value → H) :
    ReturnsInHanded {} Try.checked os 3 .any (Rows.roundWholeSpec.pre6 enc Try.prog Try.f3 Rows.roundWholeRow.domain false) (Rows.roundWholeSpec.post enc Try.prog Try.f3 false true false false) := by
  refine returnsInHanded_of_change (C := Try.checked) knob_none started (by kernel_rfl) Try.func3
    (ChangeSpec.witness6 (enc := enc) (C := Try.checked) false ⟨#[], #[.agg #[.bool false, .slice none 0 0, .int .i64 0], .slice none 0 0, .int .u8 0], []⟩ 8 (by kernel_rfl) (by kernel_rfl) (by kernel_rfl) (by kernel_rfl)) ?_
  intro W base args ds gs before hval0 hW hcnd _
  have hval : ∀ (j : Nat) t v, Try.f3.params[j]? = some t → args[j]? = some v → Value.okWide Try.prog W .any base t v := hval0
  have hW' := hW
  obtain ⟨p, q, hA0, hV, rfl, hfz, hnd⟩ := hW
  have hA : DataW.TrodAll enc Try.prog W 0 (fun _ => true) true Try.f3.params.toList args.toList ds p := hA0
  rw [Try.params3] at hA hval
  obtain ⟨v0, v1, v2, d0, d1, d2, p0, p1, p2, rfl, rfl, rfl, h0, h1, h2⟩ := trodAll_three hA
  obtain ⟨rfl, rfl⟩ := trodVars_none hV
  obtain ⟨b0, a0, l0, c0, x0, q0, rfl, w0⟩ := dec_came (hval 0 25 v0 rfl rfl) h0
  have k0 := h0
  have lt0 : ∀ x ∈ p0, x.block < W.heap.size := (by obtain ⟨f0, g0⟩ := h0; exact DataW.trod_lt f0 _ _ _ g0)
  obtain ⟨a1, l1, c1, rfl⟩ := okWide_slice Try.underlying26 (hval 1 26 v1 rfl rfl)
  obtain ⟨r1, w1⟩ := (by obtain ⟨f1, g1⟩ := h1; exact decs_came Try.underlying26 g1 : ∃ r, Hid (Raws W W.heap.size a1 l1 c1 r))
  have k1 := h1
  have lt1 : ∀ x ∈ p1, x.block < W.heap.size := (by obtain ⟨f1, g1⟩ := h1; exact DataW.trod_lt f1 _ _ _ g1)
  obtain ⟨z2, rfl, rfl, rfl, w2⟩ := open_int Try.underlying5 (hval 2 5 v2 rfl rfl) h2
  have g2 := bounds_u8 w2
  clear hA0 hval0
  refine (whole6_law b0 a0 l0 c0 x0 q0 a1 l1 c1 r1 z2 W w0.out w1.out g2.1 g2.2).mono fun e W' ⟨he, bel⟩ => ?_
  subst he
  exact ⟨_, rfl, _, _, _, [], _, [], hW', trodAll_mk1 (shut_bool Try.underlying4 _), trodAll_mk3 (Below.trod laid_out (by kernel_rfl) (of_decide_eq_true (by kernel_rfl)) k0 bel lt0) (Below.trod laid_out (by kernel_rfl) (of_decide_eq_true (by kernel_rfl)) k1 bel lt1) (shut_int Try.underlying5 w2), rfl, bel.frame _, fun h => by cases h⟩

theorem whole_holds : Rows.RoundWholeSaid :=
  OpenClaim.holds_of_wide 3 Try.f3 rfl rfl rfl rfl rfl rfl rfl ⟨rfl, rfl, rfl, rfl, rfl⟩ rfl rfl rfl rfl rfl (by kernel_rfl) Try.func3 (by kernel_rfl)
    (of_decide_eq_true (by kernel_rfl)) (by unfold Func.isWrapper; first | (rw [if_pos (by decide +kernel)]; kernel_rfl) | (rw [if_neg (by decide +kernel)]; exact ⟨rfl, rfl⟩))
    (fun os started H enc _ => lifted os started H enc)

end Go.Proofs.Ytllcjahekckbfaa.RouWholeLaw
