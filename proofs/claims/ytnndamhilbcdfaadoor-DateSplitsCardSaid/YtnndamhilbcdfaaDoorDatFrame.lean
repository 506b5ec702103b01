/-
  Layer 8: how a law's arguments come, and what the listed tables hold when its call begins.
-/
import Derived.Test.YtnndamhilbcdfaaDoorDatT
import Derived.Test.YtnndamhilbcdfaaDoorRows
import Derived.ProofKit
import Derived.OpenShut
import Derived.ShutString
import Derived.ChangeOld
import Derived.Lib.SmallJoins
import Derived.Stop.LaidErr
import Derived.ChangeMaps5
import Derived.LaidMore
import Derived.Lay
import Derived.SevenTiedAt
import Derived.Stop.Joined
set_option linter.unusedVariables false
set_option linter.unusedSimpArgs false
set_option linter.unusedVariables false
set_option linter.unusedSimpArgs false
set_option linter.unusedVariables false
set_option linter.unusedSimpArgs false
namespace Go.Proofs.YtnndamhilbcdfaaDoor
open Go.ChangeShapes Go.WideShapes Go.ChangeAt Go.RowKit Go.Joins

theorem knob8 : ownKnob Tryd.prog.godebug = none := by kernel_rfl
theorem laidOut8 : laidOutB Tryd.prog = true := by kernel_rfl

set_option maxRecDepth 100000 in
theorem date_came {H : Type} {enc : TypeId × Value → H} {W : World} {base : Nat} {v : Value} {d : DataW H} {p : List MemPlace} (hv : Value.okWide Tryd.prog W .any base 23 v)
    (h : DataW.Trod enc Tryd.prog W 0 (fun _ => true) true 23 v d p) : ∃ y m k : Int, v = .agg #[.int .i64 y, .int .i64 m, .int .i64 k] ∧ Hid (-9223372036854775808 ≤ y ∧ y ≤ 9223372036854775807) := by
  obtain ⟨v0, v1, v2, y0, y1, y2, m, rfl, _, _, h0, h1, h2⟩ := open_agg3 Tryd.underlying23 (by kernel_rfl) (by kernel_rfl) hv h
  obtain ⟨a, ha, _, wa⟩ := DataW.trod_int Tryd.underlying3 h0
  obtain ⟨b, hb, _⟩ := DataW.trod_int Tryd.underlying3 h1
  obtain ⟨c, hc, _⟩ := DataW.trod_int Tryd.underlying3 h2
  injection ha with ha
  injection hb with hb
  injection hc with hc
  subst ha; subst hb; subst hc
  exact ⟨a, b, c, rfl, bounds_i64 wa⟩
set_option maxRecDepth 100000 in
theorem case_came {H : Type} {enc : TypeId × Value → H} {W : World} {base : Nat} {v : Value} {d : DataW H} {p : List MemPlace} (hv : Value.okWide Tryd.prog W .any base 25 v)
    (h : DataW.Trod enc Tryd.prog W 0 (fun _ => true) true 25 v d p) : ∃ (n : Int) (s : ByteArray), v = .agg #[.int .i64 n, .string s] ∧ Hid (s.size ≤ maxLen) := by
  obtain ⟨v0, v1, y0, y1, m, rfl, _, _, h0, h1⟩ := open_agg2 Tryd.underlying25 (by kernel_rfl) (by kernel_rfl) hv h
  obtain ⟨a, ha, _⟩ := DataW.trod_int Tryd.underlying3 h0
  obtain ⟨s, hs, _, ws⟩ := DataW.trod_string Tryd.underlying9 h1
  injection ha with ha
  injection hs with hs
  subst ha; subst hs
  exact ⟨a, s, rfl, ws⟩

set_option maxRecDepth 100000 in
/-- What the row lists is what the walks ask of the tables. -/
theorem tabs_came {W : World} (h : laidMet Tryd.prog [("math/bits.deBruijn32tab", Rows.laid_math_bits_deBruijn32tab), ("math/bits.deBruijn64tab", Rows.laid_math_bits_deBruijn64tab), ("internal/strconv.uint64pow10", Rows.laid_internal_strconv_uint64pow10), ("quittance/date.lengths", Rows.laid_quittance_date_lengths)] W) : Tabs W := by
  have h3 := (h.tail).tail
  have h4 := h3.tail
  have h3' : laidMet Tryd.prog (("internal/strconv.uint64pow10", Lib.tabData .u64 Lib.pow10Tab) :: [("quittance/date.lengths", Rows.laid_quittance_date_lengths)]) W := h3
  have h4' : laidMet Tryd.prog (("quittance/date.lengths", Lib.tabData .i64 lens8) :: []) W := h4
  exact ⟨Lib.tabIs_of_head (g := 0) (t := 53) (e := 3) (n := 12) (by kernel_rfl) (by kernel_rfl) Tryd.underlying53 Tryd.underlying3 (by kernel_rfl) (by kernel_rfl) h4',
    Lib.tabIs_of_head (g := 1) (t := 86) (e := 38) (n := 20) (by kernel_rfl) (by kernel_rfl) Tryd.underlying86 Tryd.underlying38 (by kernel_rfl) (by kernel_rfl) h3'⟩

end Go.Proofs.YtnndamhilbcdfaaDoor
