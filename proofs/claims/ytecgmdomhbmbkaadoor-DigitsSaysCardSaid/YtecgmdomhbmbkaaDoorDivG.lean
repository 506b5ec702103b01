/-
  Contract of layer 3: guess: a limb is guessed, and gone round by goto until it is not too much.
-/
import Derived.Test.YtecgmdomhbmbkaaDoorDivA
import Derived.ScopeJumps
namespace Go.Proofs.YtecgmdomhbmbkaaDoor
open Go.RowKit

section
variable {P : Program} {a : Act} {w : World} {Q : Exit → Act → World → Prop}
/-- A scope in which the run jumps back to one label: what follows the label is walked once. -/
theorem wp_scope_two {c rest : Code} (l : Nat) (J : Act → World → Prop) (μ : Act → World → Nat) (hf : findLabel c l = some (Code.skip.seq rest))
    (pass : ∀ a w, J a w → rest.wp P (Exit.jump l (fun a' w' => J a' w' ∧ μ a' w' < μ a w) Q) a w)
    (first : Hid (∀ a w, J a w → rest.wp P (Exit.jump l J Q) a w) → c.wp P (Exit.jump l J Q) a w) : (Code.scope c).wp P Q a w := by
  refine wp_scope_jumps l J μ hf (first fun a w hJ => wp_mono (pass a w hJ) ?_) fun a w hJ => wp_seq (wp_skip (pass a w hJ))
  intro e a' w' h
  cases e with
  | goto l' => exact ⟨h.1, h.2.1⟩
  | normal => exact h
  | exit id => exact h
  | ret => exact h
  | panic ch => exact h
  | outgrown => exact h
end

theorem guess_move {T L v1 : Nat} (h : 0 < T) : (T - 1) * v1 + (L + v1) = T * v1 + L := by
  obtain ⟨t, rfl⟩ : ∃ t, T = t + 1 := ⟨T - 1, by omega⟩
  rw [Nat.add_sub_cancel, Nat.add_mul]; omega

/-- How the frame stands at guess's label: how often (T), and what is left (L). -/
def GuessAt (R S : Value) (n v1 v2 high m : Nat) (w0 : World) (a : Act) (w : World) : Prop :=
  ∃ (T L : Nat) (u11 u12 u13 u14 u15 u16 u17 u18 u19 u20 u21 u22 u23 u24 u25 u26 u27 u28 u29 u30 u31 u32 u33 u34 u35 u36 u37 u38 u39 u40 u41 u42 u43 u44 u45 u46 u47 u48 u49 u50 u51 u52 u53 u54 u55 u56 u57 u58 u59 u60 u61 u62 u63 u64 u65 u66 u67 : Value), a = { tmps := #[R, S, undef, undef, .int .u32 0, .int .i64 n, .int .u64 v1, .int .u64 v2, .int .u64 high, .int .u64 T, .int .u64 L, u11, u12, u13, u14, u15, u16, u17, u18, u19, u20, u21, u22, u23, u24, u25, u26, u27, u28, u29, u30, u31, u32, u33, u34, u35, u36, u37, u38, u39, u40, u41, u42, u43, u44, u45, u46, u47, u48, u49, u50, u51, u52, u53, u54, u55, u56, u57, u58, u59, u60, u61, u62, u63, u64, u65, u66, u67, undef, undef], defers := [] } ∧
    T * v1 + L = high ∧ m ≤ T ∧ L < 1000000000 ∧ T ≤ high ∧ Below w0.heap.size w0 w

end Go.Proofs.YtecgmdomhbmbkaaDoor
