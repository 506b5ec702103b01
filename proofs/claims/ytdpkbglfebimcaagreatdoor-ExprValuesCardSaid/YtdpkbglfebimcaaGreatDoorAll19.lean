/- What the proof needs, texts DecFrame, in one text. -/
import Derived.Test.YtdpkbglfebimcaaGreatDoorAll15
import Derived.Test.YtdpkbglfebimcaaGreatDoorAll18
import Derived.Lib.SmallJoins
set_option linter.unusedVariables false
set_option linter.unusedSimpArgs false
namespace Go.Proofs.YtdpkbglfebimcaaGreatDoor.Num
open Go.ChangeShapes Go.WideShapes Go.ChangeAt Go.RowKit Go.Joins
set_option maxRecDepth 100000 in
theorem dec_came {H : Type} {enc : TypeId × Value → H} {W : World} {base : Nat} {v : Value} {d : DataW H} {p : List MemPlace} (hv : Value.okWide Tryz.prog W .any base 26 v)
    (h : DataW.Trod enc Tryz.prog W 0 (fun _ => true) true 26 v d p) : ∃ b A n c xs k, v = .agg #[.bool b, .slice A n c, .int .i64 k] ∧ Hid (Lim W W.heap.size A n c xs) := by
  obtain ⟨v0, v1, v2, y0, y1, y2, m, rfl, _, _, h0, h1, h2⟩ := open_agg3 Tryz.underlying26 (by kernel_rfl) (by kernel_rfl) hv h
  obtain ⟨b, hb, _⟩ := DataW.trod_bool Tryz.underlying4 h0
  obtain ⟨k, hk, _⟩ := DataW.trod_int Tryz.underlying3 h2
  injection hb with hb
  injection hk with hk
  subst hb; subst hk
  rcases DataW.trod_slice Tryz.underlying24 h1 with ⟨hcs, _⟩ | ⟨a', l', c', _, _, _, _, hcs, _⟩
  · injection hcs with hcs
    subst hcs
    exact ⟨b, none, 0, 0, [], k, rfl, Lim.nil⟩
  · injection hcs with hcs
    subst hcs
    obtain ⟨xs, hxs⟩ := lim_came (d := y1.1) (p := y1.2) (a0 := some a') (len := l') (cap := c') Tryz.underlying24 h1
    exact ⟨b, some a', l', c', xs, k, rfl, hxs⟩
end Go.Proofs.YtdpkbglfebimcaaGreatDoor.Num
