/- What the proof needs, texts ExpFrame, in one text. -/
import Derived.Test.YtdpkbglfebimcaaGreatDoorAll38
import Derived.Test.YtdpkbglfebimcaaGreatDoorAll39
import Derived.Test.YtdpkbglfebimcaaGreatDoorAll37
import Derived.Test.YtdpkbglfebimcaaGreatDoorAll32
set_option linter.unusedVariables false
set_option linter.unusedSimpArgs false
set_option maxRecDepth 100000
set_option maxHeartbeats 32000000
namespace Go.Proofs.YtdpkbglfebimcaaGreatDoor.Num
open Go.ChangeShapes Go.WideShapes Go.ChangeAt Go.RowKit Go.Joins Go.Deep
theorem rowK_cells {w : World} {b : Nat} : ∀ (L : List Tk4) (o : Nat), (∀ q t, L[q]? = some t → w.cell? ⟨b, o + q * 4, none⟩ = some (.int .i64 t.1) ∧ w.cell? ⟨b, o + q * 4 + 1, none⟩ = some (.string t.2.1) ∧ w.cell? ⟨b, o + q * 4 + 2, none⟩ = some (.int .i64 t.2.2.1) ∧ w.cell? ⟨b, o + q * 4 + 3, none⟩ = some (.int .i64 t.2.2.2)) → ∀ j u, (rowK L)[j]? = some u → w.cell? ⟨b, o + j, none⟩ = some u
 | [], _, _, j, u, h => by simp [rowK] at h
 | t :: r, o, hc, 0, u, h => by
  have h0 := (hc 0 t rfl).1
  obtain rfl := Option.some.inj h
  simpa using h0
 | t :: r, o, hc, 1, u, h => by
  have h0 := (hc 0 t rfl).2.1
  obtain rfl := Option.some.inj h
  simpa using h0
 | t :: r, o, hc, 2, u, h => by
  have h0 := (hc 0 t rfl).2.2.1
  obtain rfl := Option.some.inj h
  simpa using h0
 | t :: r, o, hc, 3, u, h => by
  have h0 := (hc 0 t rfl).2.2.2
  obtain rfl := Option.some.inj h
  simpa using h0
 | t :: r, o, hc, j + 4, u, h => by
  have h1 : (rowK r)[j]? = some u := h
  have := rowK_cells r (o + 4) (fun q t' hq => by
   have e := hc (q + 1) t' hq
   have e0 : o + (q + 1) * 4 = o + 4 + q * 4 := by omega
   rw [e0] at e
   exact e) j u h1
  have e0 : o + (j + 4) = o + 4 + j := by omega
  rw [e0]; exact this
theorem toks_came {H : Type} {enc : TypeId × Value → H} {W : World} {t fuel len cap : Nat} {a0 : Option Addr} {d : DataW H} {p : List MemPlace} (ht : Tryz.prog.underlying t = some (.slice 39))
  (hf : DataW.trod enc Tryz.prog W 0 (fun _ => true) true fuel t (Value.slice a0 len cap).cells.toList = some (d, p)) : ∃ L, Hid (RdK W W.heap.size a0 len cap L) := by
 rcases DataW.trod_slice ht hf with ⟨hcs, _⟩ | ⟨a, l, c, elems, rest, n, _, hcs, _, hb, hl, hm, hlen, hel, _, _⟩
 ·simp [Value.cells] at hcs
  obtain ⟨rfl, rfl, rfl⟩ := hcs
  exact ⟨[], show RdK _ _ _ _ _ _ from ⟨rfl, Nat.le_refl _, Nat.zero_le _, .inl rfl⟩⟩
 ·simp [Value.cells] at hcs
  obtain ⟨rfl, rfl, rfl⟩ := hcs
  have hc1 : Tryz.prog.cellsOf 39 = 4 := by kernel_rfl
  have each : ∀ i, ∃ q : Tk4, i < len → W.cell? (a.add (i * 4)) = some (.int .i64 q.1) ∧ W.cell? (a.add (i * 4 + 1)) = some (.string q.2.1) ∧ W.cell? (a.add (i * 4 + 2)) = some (.int .i64 q.2.2.1) ∧ W.cell? (a.add (i * 4 + 3)) = some (.int .i64 q.2.2.2) := by
   intro i
   by_cases hi : i < len
   ·have h0 := hel i hi
    rw [hc1, List.getElem?_eq_getElem (by omega), Option.bind_eq_some_iff] at h0
    obtain ⟨cs', hcs, hy⟩ := h0
    have hcc := World.cells?_some hcs
    obtain ⟨y0, y1, y2, m, hx, hl3, h0, h1, h2⟩ := trod_struct3 Tryz.underlying39 hy
    obtain ⟨x0, x1, x2, x3, rfl⟩ : ∃ x0 x1 x2 x3, cs' = [x0, x1, x2, x3] := by
     match cs', hcc.2.1 with
     | [x0, x1, x2, x3], _ => exact ⟨x0, x1, x2, x3, rfl⟩
    have g0 : DataW.trod enc Tryz.prog W 0 (fun _ => true) true m 3 (List.take (Tryz.prog.cellsOf 3) (List.drop 0 [x0, x1, x2, x3])) = some y0 := h0
    have g1 : DataW.trod enc Tryz.prog W 0 (fun _ => true) true m 9 (List.take (Tryz.prog.cellsOf 9) (List.drop 1 [x0, x1, x2, x3])) = some y1 := h1
    have gp : DataW.trod enc Tryz.prog W 0 (fun _ => true) true m 37 (List.take (Tryz.prog.cellsOf 37) (List.drop 2 [x0, x1, x2, x3])) = some y2 := h2
    rw [show Tryz.prog.cellsOf 37 = 2 from by kernel_rfl] at gp
    have gp2 : DataW.trod enc Tryz.prog W 0 (fun _ => true) true m 37 [x2, x3] = some y2 := gp
    obtain ⟨y4, y5, m2, hx2, hl4, h4, h5⟩ := trod_struct2 Tryz.underlying37 gp2
    have g2 : DataW.trod enc Tryz.prog W 0 (fun _ => true) true m2 3 (List.take (Tryz.prog.cellsOf 3) (List.drop 0 [x2, x3])) = some y4 := h4
    have g3 : DataW.trod enc Tryz.prog W 0 (fun _ => true) true m2 3 (List.take (Tryz.prog.cellsOf 3) (List.drop 1 [x2, x3])) = some y5 := h5
    rw [show Tryz.prog.cellsOf 3 = 1 from by kernel_rfl] at g0 g2 g3
    rw [show Tryz.prog.cellsOf 9 = 1 from by kernel_rfl] at g1
    have k0 : W.cell? (a.add (i * 4)) = some x0 := by have := hcc.2.2 0 (by omega); simpa [Addr.add] using this
    have k1 : W.cell? (a.add (i * 4 + 1)) = some x1 := by have := hcc.2.2 1 (by omega); rw [add_twice] at this; simpa using this
    have k2 : W.cell? (a.add (i * 4 + 2)) = some x2 := by have := hcc.2.2 2 (by omega); rw [add_twice] at this; simpa using this
    have k3 : W.cell? (a.add (i * 4 + 3)) = some x3 := by have := hcc.2.2 3 (by omega); rw [add_twice] at this; simpa using this
    obtain ⟨z0, e0, _⟩ := DataW.trod_int Tryz.underlying3 g0
    obtain ⟨z1, e1, _⟩ := DataW.trod_string Tryz.underlying9 g1
    obtain ⟨z2, e2, _⟩ := DataW.trod_int Tryz.underlying3 g2
    obtain ⟨z3, e3, _⟩ := DataW.trod_int Tryz.underlying3 g3
    have e0 : x0 = .int .i64 z0 := by simpa using e0
    have e1 : x1 = .string z1 := by simpa using e1
    have e2 : x2 = .int .i64 z2 := by simpa using e2
    have e3 : x3 = .int .i64 z3 := by simpa using e3
    rw [e0] at k0; rw [e1] at k1; rw [e2] at k2; rw [e3] at k3
    exact ⟨(z0, z1, z2, z3), fun _ => ⟨k0, k1, k2, k3⟩⟩
   ·exact ⟨(0, ⟨#[]⟩, 0, 0), fun h => absurd h hi⟩
  obtain ⟨f, hf⟩ := Classical.axiomOfChoice each
  refine ⟨(List.range len).map f, show RdK _ _ _ _ _ _ from ⟨by simp, hl, hm, ?_⟩⟩
  rcases Nat.eq_zero_or_pos len with h0 | h0
  ·subst h0; exact .inl rfl
  ·have hc0 := (hf 0 h0).1
   obtain ⟨b, o, s⟩ := a
   have hs : s = none := by simpa [Addr.add] using World.cell?_spot hc0
   subst hs
   refine .inr ⟨b, o, rfl, by simpa [Addr.add] using World.block_lt_of_cell? W _ hc0, rowK_cells _ _ fun q t' hq => ?_⟩
   rw [List.getElem?_map, Option.map_eq_some_iff] at hq
   obtain ⟨q', hq1, rfl⟩ := hq
   obtain ⟨hq2, hq3⟩ := List.getElem?_eq_some_iff.1 hq1
   rw [List.getElem_range] at hq3
   rw [List.length_range] at hq2
   subst hq3
   have hc := hf q hq2
   rw [Addr.add_lit, Addr.add_lit, Addr.add_lit, Addr.add_lit] at hc
   exact ⟨hc.1, by rw [Nat.add_assoc]; exact hc.2.1, by rw [Nat.add_assoc]; exact hc.2.2.1, by rw [Nat.add_assoc]; exact hc.2.2.2⟩
theorem dec3 {H : Type} {enc : TypeId × Value → H} {W : World} {fuel : Nat} {x0 x1 x2 : Value} {y : DataW H × List MemPlace} (h : DataW.trod enc Tryz.prog W 0 (fun _ => true) true fuel 26 [x0, x1, x2] = some y) : ∃ b A n c xs k, x0 = .bool b ∧ x1 = .slice A n c ∧ x2 = .int .i64 k ∧ Hid (Lim W W.heap.size A n c xs) := by
 obtain ⟨y0, y1, y2, m, hx, hl3, h0, h1, h2⟩ := trod_struct3 Tryz.underlying26 h
 have g0 : DataW.trod enc Tryz.prog W 0 (fun _ => true) true m 4 (List.take (Tryz.prog.cellsOf 4) (List.drop 0 [x0, x1, x2])) = some y0 := h0
 have g1 : DataW.trod enc Tryz.prog W 0 (fun _ => true) true m 24 (List.take (Tryz.prog.cellsOf 24) (List.drop 1 [x0, x1, x2])) = some y1 := h1
 have g2 : DataW.trod enc Tryz.prog W 0 (fun _ => true) true m 3 (List.take (Tryz.prog.cellsOf 3) (List.drop 2 [x0, x1, x2])) = some y2 := h2
 rw [show Tryz.prog.cellsOf 4 = 1 from by kernel_rfl] at g0
 rw [show Tryz.prog.cellsOf 24 = 1 from by kernel_rfl] at g1
 rw [show Tryz.prog.cellsOf 3 = 1 from by kernel_rfl] at g2
 obtain ⟨b, e0, _⟩ := DataW.trod_bool Tryz.underlying4 g0
 obtain ⟨k, e2, _⟩ := DataW.trod_int Tryz.underlying3 g2
 have f0 : x0 = .bool b := by simpa using e0
 have f2 : x2 = .int .i64 k := by simpa using e2
 rcases DataW.trod_slice Tryz.underlying24 g1 with ⟨e1, _⟩ | ⟨a', l', c', _, _, _, _, e1, _⟩
 ·have e1 : x1 = .slice none 0 0 := by simpa using e1
  exact ⟨b, none, 0, 0, [], k, f0, e1, f2, Lim.nil⟩
 ·have e1 : x1 = .slice (some a') l' c' := by simpa using e1
  subst e1
  obtain ⟨xs, hxs⟩ := lim_came (d := y1.1) (p := y1.2) (a0 := some a') (len := l') (cap := c') Tryz.underlying24 g1
  exact ⟨b, some a', l', c', xs, k, f0, rfl, f2, hxs⟩
theorem array6 {α : Type} {cs : Array α} (h : cs.size = 6) : ∃ c0 c1 c2 c3 c4 c5, cs = #[c0, c1, c2, c3, c4, c5] := by
 obtain ⟨l⟩ := cs
 match l, h with
 | [c0, c1, c2, c3, c4, c5], _ => exact ⟨c0, c1, c2, c3, c4, c5, rfl⟩
theorem arr_came {H : Type} {enc : TypeId × Value → H} {W : World} {base : Nat} {v : Value} {d : DataW H} {p : List MemPlace} (hv : Value.okWide Tryz.prog W .any base 27 v)
  (h : DataW.Trod enc Tryz.prog W 0 (fun _ => true) true 27 v d p) : ∃ b1 A1 n1 c1 xs1 k1 b2 A2 n2 c2 xs2 k2, v = .agg #[.bool b1, .slice A1 n1 c1, .int .i64 k1, .bool b2, .slice A2 n2 c2, .int .i64 k2] ∧ Hid (Lim W W.heap.size A1 n1 c1 xs1) ∧ Hid (Lim W W.heap.size A2 n2 c2 xs2) := by
 obtain ⟨cs, rfl, hsz⟩ : ∃ cs, v = .agg cs ∧ cs.size = Tryz.prog.cellsOf 27 := by
  simp only [Value.okWide, Tryz.underlying27] at hv
  obtain ⟨cs, e1, e2, _⟩ := hv
  exact ⟨cs, e1, e2⟩
 obtain ⟨c0, c1, c2, c3, c4, c5, rfl⟩ := array6 (hsz.trans (by kernel_rfl))
 obtain ⟨fuel, hf⟩ := h
 obtain ⟨xs, m, _, _, _, hl, hh⟩ := DataW.trod_array Tryz.underlying27 hf
 have e : Tryz.prog.cellsOf 26 = 3 := by kernel_rfl
 have h0 := hh 0 (by omega)
 have h1 := hh 1 (by omega)
 rw [e, List.getElem?_eq_getElem (by omega)] at h0 h1
 obtain ⟨b1, A1, n1, q1, xs1, k1, r0, r1, r2, w1⟩ := dec3 (x0 := c0) (x1 := c1) (x2 := c2) h0
 obtain ⟨b2, A2, n2, q2, xs2, k2, r3, r4, r5, w2⟩ := dec3 (x0 := c3) (x1 := c4) (x2 := c5) h1
 subst r0; subst r1; subst r2; subst r3; subst r4; subst r5
 exact ⟨b1, A1, n1, q1, xs1, k1, b2, A2, n2, q2, xs2, k2, rfl, w1, w2⟩
end Go.Proofs.YtdpkbglfebimcaaGreatDoor.Num
