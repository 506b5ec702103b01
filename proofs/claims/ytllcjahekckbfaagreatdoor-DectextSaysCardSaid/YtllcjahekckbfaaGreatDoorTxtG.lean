/-
  Layer 7: what the examples say, reckoned.
-/
import Derived.Test.YtllcjahekckbfaaGreatDoorTxtF
set_option linter.unusedVariables false
set_option linter.unusedSimpArgs false
namespace Go.Proofs.YtllcjahekckbfaaGreatDoor

theorem g1 : rst (codes ⟨#[45, 49, 44, 50, 51, 52, 46, 53, 48]⟩) ≠ [] ∧ frmB (rst (codes ⟨#[45, 49, 44, 50, 51, 52, 46, 53, 48]⟩)) = true ∧ numD (codes ⟨#[45, 49, 44, 50, 51, 52, 46, 53, 48]⟩) = -123450 ∧ (bhd (rst (codes ⟨#[45, 49, 44, 50, 51, 52, 46, 53, 48]⟩))).length = 2 := by decide
theorem g2 : rst (codes ⟨#[45, 48, 46, 48, 48]⟩) ≠ [] ∧ frmB (rst (codes ⟨#[45, 48, 46, 48, 48]⟩)) = true ∧ numD (codes ⟨#[45, 48, 46, 48, 48]⟩) = 0 ∧ (bhd (rst (codes ⟨#[45, 48, 46, 48, 48]⟩))).length = 2 := by decide
theorem g3 : rst (codes ⟨#[49, 50, 44, 51, 52]⟩) ≠ [] ∧ frmB (rst (codes ⟨#[49, 50, 44, 51, 52]⟩)) = false := by decide
theorem g4 : rst (codes ⟨#[49, 46]⟩) ≠ [] ∧ frmB (rst (codes ⟨#[49, 46]⟩)) = false := by decide
theorem g5 : rst (codes ⟨#[43]⟩) = [] := by decide
theorem g6 : rst (codes ⟨#[49, 50, 51, 52, 44, 53, 54, 55]⟩) ≠ [] ∧ frmB (rst (codes ⟨#[49, 50, 51, 52, 44, 53, 54, 55]⟩)) = false := by decide
theorem g7 : str (txtD (-123450) 2) = ⟨#[45, 49, 50, 51, 52, 46, 53, 48]⟩ := txtD_val 3 (by decide) (by decide) (l := [45, 49, 50, 51, 52, 46, 53, 48]) (by decide)
theorem g8 : str (comD (-123450) 2) = ⟨#[45, 49, 44, 50, 51, 52, 46, 53, 48]⟩ := comD_val 3 (by decide) (by decide) (l := [45, 49, 44, 50, 51, 52, 46, 53, 48]) (by decide)
theorem g9 : str (txtD (stripI (-123450) 2 0) (2 - stripK (-123450) 2 0)) = ⟨#[45, 49, 50, 51, 52, 46, 53]⟩ := by
  have e : tz 123450 = 1 := by rw [tz_yes (by omega) (by omega), tz_no (by omega)]
  have h1 : stripK (-123450) 2 0 = 1 := by unfold stripK; rw [if_neg (by decide), show (-123450 : Int).natAbs = 123450 from rfl, e]; rfl
  have h2 : stripI (-123450) 2 0 = -12345 := by unfold stripI; rw [h1]; rfl
  rw [h1, h2]
  exact txtD_val 3 (by decide) (by decide) (l := [45, 49, 50, 51, 52, 46, 53]) (by decide)
theorem g10 : str (txtD 0 2) = ⟨#[48, 46, 48, 48]⟩ := txtD_small (by decide) (l := [48, 46, 48, 48]) (by decide)
theorem g11 : str (txtD 5 3) = ⟨#[48, 46, 48, 48, 53]⟩ := txtD_small (by decide) (l := [48, 46, 48, 48, 53]) (by decide)
theorem g12 : (bhd (codes ⟨#[49, 46, 50, 53, 48]⟩)).length = 3 ∧ (bhd (codes ⟨#[55]⟩)).length = 0 := by decide

end Go.Proofs.YtllcjahekckbfaaGreatDoor
