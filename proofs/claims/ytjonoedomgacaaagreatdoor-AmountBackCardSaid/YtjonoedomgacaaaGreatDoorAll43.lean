/- What the proof needs, texts ExpFrame, AmoFrame, in one text. -/
import Derived.Test.YtjonoedomgacaaaGreatDoorAll42
import Derived.Test.YtjonoedomgacaaaGreatDoorAll40
import Derived.Test.YtjonoedomgacaaaGreatDoorAll37
import Derived.Test.YtjonoedomgacaaaGreatDoorAll23
set_option linter.unusedVariables false
set_option linter.unusedSimpArgs false
set_option maxRecDepth 100000
set_option maxHeartbeats 32000000
namespace Go.Proofs.YtjonoedomgacaaaGreatDoor.Num
open Go.ChangeShapes Go.WideShapes Go.ChangeAt Go.RowKit Go.Joins Go.Deep
theorem rowK_cells {w : World} {b : Nat} : ∀ (L : List Tk4) (o : Nat), (∀ q t, L[q]? = some t → w.cell? ⟨b, o + q * 4, none⟩ = some (.int .i64 t.1) ∧ w.cell? ⟨b, o + q * 4 + 1, none⟩ = some (.string t.2.1) ∧ w.cell? ⟨b, o + q * 4 + 2, none⟩ = some (.int .i64 t.2.2.1) ∧ w.cell? ⟨b, o + q * 4 + 3, none⟩ = some (.int .i64 t.2.2.2)) → ∀ j u, (rowK L)[j]? = some u → w.cell? ⟨b, o + j, none⟩ = some u
 | [], _, _, j, u, h => by simp [rowK] at h
 | t :: r, o, hc, 0, u, h => by
  have h0 := (hc 0 t rfl).1
  obtain rfl := Option.some.inj h
  simpa using h0
 | t :: r, o, hc, 1, u, h => by
  have h0 := (hc 0 t rfl).2.1
  obtain rfl := Option.some.inj h
  simpa using h0
 | t :: r, o, hc, 2, u, h => by
  have h0 := (hc 0 t rfl).2.2.1
  obtain rfl := Option.some.inj h
  simpa using h0
 | t :: r, o, hc, 3, u, h => by
  have h0 := (hc 0 t rfl).2.2.2
  obtain rfl := Option.some.inj h
  simpa using h0
 | t :: r, o, hc, j + 4, u, h => by
  have h1 : (rowK r)[j]? = some u := h
  have := rowK_cells r (o + 4) (fun q t' hq => by
   have e := hc (q + 1) t' hq
   have e0 : o + (q + 1) * 4 = o + 4 + q * 4 := by omega
   rw [e0] at e
   exact e) j u h1
  have e0 : o + (j + 4) = o + 4 + j := by omega
  rw [e0]; exact this
theorem toks_came {H : Type} {enc : TypeId × Value → H} {W : World} {t fuel len cap : Nat} {a0 : Option Addr} {d : DataW H} {p : List MemPlace} (ht : Tryz.prog.underlying t = some (.slice 54))
  (hf : DataW.trod enc Tryz.prog W 0 (fun _ => true) true fuel t (Value.slice a0 len cap).cells.toList = some (d, p)) : ∃ L, Hid (RdK W W.heap.size a0 len cap L) := by
 rcases DataW.trod_slice ht hf with ⟨hcs, _⟩ | ⟨a, l, c, elems, rest, n, _, hcs, _, hb, hl, hm, hlen, hel, _, _⟩
 ·simp [Value.cells] at hcs
  obtain ⟨rfl, rfl, rfl⟩ := hcs
  exact ⟨[], show RdK _ _ _ _ _ _ from ⟨rfl, Nat.le_refl _, Nat.zero_le _, .inl rfl⟩⟩
 ·simp [Value.cells] at hcs
  obtain ⟨rfl, rfl, rfl⟩ := hcs
  have hc1 : Tryz.prog.cellsOf 54 = 4 := by kernel_rfl
  have each : ∀ i, ∃ q : Tk4, i < len → W.cell? (a.add (i * 4)) = some (.int .i64 q.1) ∧ W.cell? (a.add (i * 4 + 1)) = some (.string q.2.1) ∧ W.cell? (a.add (i * 4 + 2)) = some (.int .i64 q.2.2.1) ∧ W.cell? (a.add (i * 4 + 3)) = some (.int .i64 q.2.2.2) := by
   intro i
   by_cases hi : i < len
   ·have h0 := hel i hi
    rw [hc1, List.getElem?_eq_getElem (by omega), Option.bind_eq_some_iff] at h0
    obtain ⟨cs', hcs, hy⟩ := h0
    have hcc := World.cells?_some hcs
    obtain ⟨y0, y1, y2, m, hx, hl3, h0, h1, h2⟩ := trod_struct3 Tryz.underlying54 hy
    obtain ⟨x0, x1, x2, x3, rfl⟩ : ∃ x0 x1 x2 x3, cs' = [x0, x1, x2, x3] := by
     match cs', hcc.2.1 with
     | [x0, x1, x2, x3], _ => exact ⟨x0, x1, x2, x3, rfl⟩
    have g0 : DataW.trod enc Tryz.prog W 0 (fun _ => true) true m 3 (List.take (Tryz.prog.cellsOf 3) (List.drop 0 [x0, x1, x2, x3])) = some y0 := h0
    have g1 : DataW.trod enc Tryz.prog W 0 (fun _ => true) true m 9 (List.take (Tryz.prog.cellsOf 9) (List.drop 1 [x0, x1, x2, x3])) = some y1 := h1
    have gp : DataW.trod enc Tryz.prog W 0 (fun _ => true) true m 52 (List.take (Tryz.prog.cellsOf 52) (List.drop 2 [x0, x1, x2, x3])) = some y2 := h2
    rw [show Tryz.prog.cellsOf 52 = 2 from by kernel_rfl] at gp
    have gp2 : DataW.trod enc Tryz.prog W 0 (fun _ => true) true m 52 [x2, x3] = some y2 := gp
    obtain ⟨y4, y5, m2, hx2, hl4, h4, h5⟩ := trod_struct2 Tryz.underlying52 gp2
    have g2 : DataW.trod enc Tryz.prog W 0 (fun _ => true) true m2 3 (List.take (Tryz.prog.cellsOf 3) (List.drop 0 [x2, x3])) = some y4 := h4
    have g3 : DataW.trod enc Tryz.prog W 0 (fun _ => true) true m2 3 (List.take (Tryz.prog.cellsOf 3) (List.drop 1 [x2, x3])) = some y5 := h5
    rw [show Tryz.prog.cellsOf 3 = 1 from by kernel_rfl] at g0 g2 g3
    rw [show Tryz.prog.cellsOf 9 = 1 from by kernel_rfl] at g1
    have k0 : W.cell? (a.add (i * 4)) = some x0 := by have := hcc.2.2 0 (by omega); simpa [Addr.add] using this
    have k1 : W.cell? (a.add (i * 4 + 1)) = some x1 := by have := hcc.2.2 1 (by omega); rw [add_twice] at this; simpa using this
    have k2 : W.cell? (a.add (i * 4 + 2)) = some x2 := by have := hcc.2.2 2 (by omega); rw [add_twice] at this; simpa using this
    have k3 : W.cell? (a.add (i * 4 + 3)) = some x3 := by have := hcc.2.2 3 (by omega); rw [add_twice] at this; simpa using this
    obtain ⟨z0, e0, _⟩ := DataW.trod_int Tryz.underlying3 g0
    obtain ⟨z1, e1, _⟩ := DataW.trod_string Tryz.underlying9 g1
    obtain ⟨z2, e2, _⟩ := DataW.trod_int Tryz.underlying3 g2
    obtain ⟨z3, e3, _⟩ := DataW.trod_int Tryz.underlying3 g3
    have e0 : x0 = .int .i64 z0 := by simpa using e0
    have e1 : x1 = .string z1 := by simpa using e1
    have e2 : x2 = .int .i64 z2 := by simpa using e2
    have e3 : x3 = .int .i64 z3 := by simpa using e3
    rw [e0] at k0; rw [e1] at k1; rw [e2] at k2; rw [e3] at k3
    exact ⟨(z0, z1, z2, z3), fun _ => ⟨k0, k1, k2, k3⟩⟩
   ·exact ⟨(0, ⟨#[]⟩, 0, 0), fun h => absurd h hi⟩
  obtain ⟨f, hf⟩ := Classical.axiomOfChoice each
  refine ⟨(List.range len).map f, show RdK _ _ _ _ _ _ from ⟨by simp, hl, hm, ?_⟩⟩
  rcases Nat.eq_zero_or_pos len with h0 | h0
  ·subst h0; exact .inl rfl
  ·have hc0 := (hf 0 h0).1
   obtain ⟨b, o, s⟩ := a
   have hs : s = none := by simpa [Addr.add] using World.cell?_spot hc0
   subst hs
   refine .inr ⟨b, o, rfl, by simpa [Addr.add] using World.block_lt_of_cell? W _ hc0, rowK_cells _ _ fun q t' hq => ?_⟩
   rw [List.getElem?_map, Option.map_eq_some_iff] at hq
   obtain ⟨q', hq1, rfl⟩ := hq
   obtain ⟨hq2, hq3⟩ := List.getElem?_eq_some_iff.1 hq1
   rw [List.getElem_range] at hq3
   rw [List.length_range] at hq2
   subst hq3
   have hc := hf q hq2
   rw [Addr.add_lit, Addr.add_lit, Addr.add_lit, Addr.add_lit] at hc
   exact ⟨hc.1, by rw [Nat.add_assoc]; exact hc.2.1, by rw [Nat.add_assoc]; exact hc.2.2.1, by rw [Nat.add_assoc]; exact hc.2.2.2⟩
end Go.Proofs.YtjonoedomgacaaaGreatDoor.Num
namespace Go.Proofs.YtjonoedomgacaaaGreatDoor.Num
theorem laid_came14 {W : World} (h : laidMet Tryz.prog [("math/bits.deBruijn32tab", Rows.laid_math_bits_deBruijn32tab), ("math/bits.deBruijn64tab", Rows.laid_math_bits_deBruijn64tab), ("internal/strconv.uint64pow10", Rows.laid_internal_strconv_uint64pow10), ("unicode/utf8.acceptRanges", Rows.laid_unicode_utf8_acceptRanges), ("quittance/date.lengths", Rows.laid_quittance_date_lengths), ("quittance/name.roots", Rows.laid_quittance_name_roots), ("unicode/utf8.first", Rows.laid_unicode_utf8_first)] W) : Dat.Tabs W ∧ Roots W := by
 have h1 : laidMet Tryz.prog (("quittance/date.lengths", Lib.tabData .i64 Dat.lens8) :: [("quittance/name.roots", Rows.laid_quittance_name_roots), ("unicode/utf8.first", Rows.laid_unicode_utf8_first)]) W := (((h.tail.tail).tail).tail)
 have h3 : laidMet Tryz.prog (("internal/strconv.uint64pow10", Lib.tabData .u64 Lib.pow10Tab) :: [("unicode/utf8.acceptRanges", Rows.laid_unicode_utf8_acceptRanges), ("quittance/date.lengths", Rows.laid_quittance_date_lengths), ("quittance/name.roots", Rows.laid_quittance_name_roots), ("unicode/utf8.first", Rows.laid_unicode_utf8_first)]) W := (h.tail.tail)
 have h2 : laidMet Tryz.prog (("quittance/name.roots", .agg (([[65, 115, 115, 101, 116, 115], [76, 105, 97, 98, 105, 108, 105, 116, 105, 101, 115], [69, 113, 117, 105, 116, 121], [73, 110, 99, 111, 109, 101], [69, 120, 112, 101, 110, 115, 101, 115]] : List (List UInt8)).map fun z => .lit (.string z))) :: [("unicode/utf8.first", Rows.laid_unicode_utf8_first)]) W := ((((h.tail.tail).tail).tail).tail)
 have hv := txts_of_head (g := 2) (t := 181) (e := 9) (n := 5) (by kernel_rfl) (by kernel_rfl) Tryz.underlying181 Tryz.underlying9 (by kernel_rfl) (by kernel_rfl) h2
 have hc := fun i => World.var?_cell (show Tryz.prog.globalNamed "quittance/name.roots" = some 2 by kernel_rfl) hv i
 exact ⟨⟨Lib.tabIs_of_head (g := 0) (t := 142) (e := 3) (n := 12) (by kernel_rfl) (by kernel_rfl) Tryz.underlying142 Tryz.underlying3 (by kernel_rfl) (by kernel_rfl) h1, Lib.tabIs_of_head (g := 3) (t := 203) (e := 165) (n := 20) (by kernel_rfl) (by kernel_rfl) Tryz.underlying203 Tryz.underlying165 (by kernel_rfl) (by kernel_rfl) h3⟩, hc 0, hc 1, hc 2, hc 3, hc 4⟩
end Go.Proofs.YtjonoedomgacaaaGreatDoor.Num
