/- What the proof needs, texts NatFrame, in one text. -/
import Derived.Test.YtdpkbglfebimcaaGreatDoorAll05
import Derived.Test.YtdpkbglfebimcaaGreatDoorRows
import Derived.ProofKit
import Derived.OpenShut
import Derived.ShutString
import Derived.ChangeOld
set_option linter.unusedVariables false
set_option linter.unusedSimpArgs false
set_option maxRecDepth 100000
set_option maxHeartbeats 32000000
namespace Go.Proofs.YtdpkbglfebimcaaGreatDoor.Num
open Go.ChangeShapes Go.WideShapes Go.ChangeAt Go.RowKit
theorem lim_came {H : Type} {enc : TypeId × Value → H} {W : World} {t fuel len cap : Nat} {a0 : Option Addr} {d : DataW H} {p : List MemPlace} (ht : Tryz.prog.underlying t = some (.slice 103))
  (hf : DataW.trod enc Tryz.prog W 0 (fun _ => true) true fuel t (Value.slice a0 len cap).cells.toList = some (d, p)) : ∃ xs, Hid (Lim W W.heap.size a0 len cap xs) := by
 rcases open_ints ht Tryz.underlying103 (by kernel_rfl) hf with ⟨hcs, _⟩ | ⟨x, l, c, zs, hcs, _, hl, hm, hz, _, hcell, hwz⟩
 ·simp [Value.cells] at hcs
  obtain ⟨rfl, rfl, rfl⟩ := hcs
  exact ⟨[], Lim.nil⟩
 ·simp [Value.cells] at hcs
  obtain ⟨rfl, rfl, rfl⟩ := hcs
  simp only [if_true] at hz
  have hb : ∀ i, i < zs.length → 0 ≤ zs.getD i 0 ∧ zs.getD i 0 ≤ 4294967295 := fun i hi => by
   rw [List.getD_eq_getElem?_getD, List.getElem?_eq_getElem hi]
   exact bounds_u32 (hwz _ (List.getElem_mem hi))
  refine ⟨(zs.take len).map Int.toNat, ?_⟩
  have hlen : ((zs.take len).map Int.toNat).length = len := by simp; omega
  refine ⟨hlen, hl, hm, fun n hn => ?_, ?_, fun h => by cases h⟩
  ·obtain ⟨z, hz1, rfl⟩ := List.mem_map.1 hn
   have := bounds_u32 (hwz z (List.mem_of_mem_take hz1))
   omega
  ·rcases Nat.eq_zero_or_pos len with h0 | h0
   ·subst h0; left; simp [vals]
   ·have hc0 := hcell 0 (by omega)
    obtain ⟨b, o, s⟩ := x
    have hs : s = none := by simpa [Addr.add] using World.cell?_spot hc0
    subst hs
    refine .inr ⟨b, o, rfl, by simpa [Addr.add] using World.block_lt_of_cell? W _ hc0, fun j u hu => ?_⟩
    have hj : j < len := by
     have := (List.getElem?_eq_some_iff.1 hu).1
     rwa [vals_len, hlen] at this
    have hc := hcell j (by omega)
    rw [Addr.add_lit] at hc
    rw [hc]
    have hbj := hb j (by omega)
    rw [vals_get (by omega)] at hu
    injection hu with hu
    rw [← hu]
    have hjz : j < zs.length := by omega
    have e1 : zs.getD j 0 = zs[j] := by rw [List.getD_eq_getElem?_getD, List.getElem?_eq_getElem hjz]; rfl
    have e2 : gd ((zs.take len).map Int.toNat) j = zs[j].toNat := by
     unfold gd
     rw [List.getD_eq_getElem?_getD, List.getElem?_map, List.getElem?_take_of_lt hj, List.getElem?_eq_getElem hjz]; rfl
    rw [e1] at hbj ⊢
    rw [e2, Int.toNat_of_nonneg hbj.1]
end Go.Proofs.YtdpkbglfebimcaaGreatDoor.Num
