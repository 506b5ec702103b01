/-
  How an argument of api.Dec comes.
-/
import Derived.Test.YtafbkoejobkncaaAllNatF
import Derived.Test.YtafbkoejobkncaaDecU
import Derived.Lib.SmallJoins
namespace Go.Proofs.Ytafbkoejobkncaa
open Go.ChangeShapes Go.WideShapes Go.ChangeAt Go.RowKit Go.Joins

theorem dec_came {H : Type} {enc : TypeId × Value → H} {W : World} {base : Nat} {v : Value} {d : DataW H} {p : List MemPlace} (hv : Value.okWide Try.prog W .any base 25 v)
    (h : DataW.Trod enc Try.prog W 0 (fun _ => true) true 25 v d p) : ∃ b A n c xs k, v = .agg #[.bool b, .slice A n c, .int .i64 k] ∧ Hid (Lim W W.heap.size A n c xs) := by
  obtain ⟨v0, v1, v2, y0, y1, y2, m, rfl, _, _, h0, h1, h2⟩ := open_agg3 Try.underlying25 (by kernel_rfl) (by kernel_rfl) hv h
  obtain ⟨b, hb, _⟩ := DataW.trod_bool Try.underlying4 h0
  obtain ⟨k, hk, _⟩ := DataW.trod_int Try.underlying3 h2
  injection hb with hb
  injection hk with hk
  subst hb; subst hk
  rcases DataW.trod_slice Try.underlying23 h1 with ⟨hcs, _⟩ | ⟨a', l', c', _, _, _, _, hcs, _⟩
  · injection hcs with hcs
    subst hcs
    exact ⟨b, none, 0, 0, [], k, rfl, Lim.nil⟩
  · injection hcs with hcs
    subst hcs
    obtain ⟨xs, hxs⟩ := lim_came (d := y1.1) (p := y1.2) (a0 := some a') (len := l') (cap := c') Try.underlying23 h1
    exact ⟨b, some a', l', c', xs, k, rfl, hxs⟩
/-- An array of two integers. -/
theorem two_came {H : Type} {enc : TypeId × Value → H} {W : World} {base : Nat} {v : Value} {d : DataW H} {p : List MemPlace} (hv : Value.okWide Try.prog W .any base 26 v)
    (h : DataW.Trod enc Try.prog W 0 (fun _ => true) true 26 v d p) : ∃ y z : Int, v = .agg #[.int .i64 y, .int .i64 z] ∧ Hid (-9223372036854775808 ≤ y ∧ y ≤ 9223372036854775807) ∧ Hid (-9223372036854775808 ≤ z ∧ z ≤ 9223372036854775807) := by
  obtain ⟨cs, rfl, hsz⟩ : ∃ cs, v = .agg cs ∧ cs.size = Try.prog.cellsOf 26 := by
    simp only [Value.okWide, Try.underlying26] at hv
    obtain ⟨cs, e1, e2, _⟩ := hv
    exact ⟨cs, e1, e2⟩
  obtain ⟨c0, c1, rfl⟩ := array2 (hsz.trans (by kernel_rfl))
  obtain ⟨fuel, hf⟩ := h
  obtain ⟨xs, m, _, _, _, hl, hh⟩ := DataW.trod_array Try.underlying26 hf
  have e : Try.prog.cellsOf 3 = 1 := by kernel_rfl
  have h0 := hh 0 (by omega)
  have h1 := hh 1 (by omega)
  rw [e, List.getElem?_eq_getElem (by omega)] at h0 h1
  obtain ⟨y, hy, _, wy⟩ := DataW.trod_int Try.underlying3 h0
  obtain ⟨z, hz, _, wz⟩ := DataW.trod_int Try.underlying3 h1
  have qy : c0 = .int .i64 y := by simpa [Value.cells] using hy
  have qz : c1 = .int .i64 z := by simpa [Value.cells] using hz
  clear hy hz hh h0 h1 hf hv hsz
  subst qy; subst qz
  exact ⟨y, z, rfl, bounds_i64 wy, bounds_i64 wz⟩

end Go.Proofs.Ytafbkoejobkncaa
