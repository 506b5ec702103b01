/-
  Contracts of layer 10, the sixth part: Join and the document's.
-/
import Derived.Test.YthpoplgejenpgaaDoorScaE
set_option linter.unusedVariables false
set_option linter.unusedSimpArgs false
namespace Go.Proofs.YthpoplgejenpgaaDoor
open Go.RowKit

theorem isb_on {T e : TypeId} {B b : Nat} {bs : List Value} {w w' : World} (h : Lib.IsBuilder T e B b bs w) (hb : Below w.heap.size w w') : Lib.IsBuilder T e B b bs w' := by
  have one : ∀ p, Lib.BuilderAt T e B b p bs w → Lib.BuilderAt T e B b p bs w' := by
    intro p h
    have hlt := h.lt
    obtain ⟨h1, v, h2, h3, h4⟩ := h
    exact ⟨h1, v, (hb.block b hlt).trans h2, World.ownsRow.kept h3 (grown10 hb) (by cases hv : v.ownBlock <;> simp), h4⟩
  rcases h with h | h
  · exact .inl (one _ h)
  · exact .inr (one _ h)
theorem cells_app (a b : List Nat) : Lib.strCells (st9 a) ++ Lib.strCells (st9 b) = Lib.strCells (st9 (a ++ b)) := by simp [Lib.strCells, st9]
theorem cells_size (a : List Nat) : (Lib.strCells (st9 a)).length = a.length := by simp [Lib.strCells, st9]
theorem st9_size (a : List Nat) : (st9 a).size = a.length := by
  show (a.map UInt8.ofNat).toArray.size = _
  simp
theorem st9_app (a b : List Nat) : st9 a ++ st9 b = st9 (a ++ b) := by
  unfold st9; rw [ByteArray.mk_append_mk]; simp
theorem addst {a b : List Nat} (h : a.length + b.length ≤ 9223372036854775807) (w : World) : (Op.stringOp .add (st9 a) (st9 b)).run Tryd.prog w = .ok (.string (st9 (a ++ b))) w := by
  rw [run_string_add_sum w _ _ (by rw [st9_size, st9_size]; exact h), st9_app]
theorem join_take {L : List (List Nat)} {k : Nat} (h : k < L.length) : joinl (L.take (k + 1)) = joinl (L.take k) ++ (L.getD k [] ++ [10]) := by
  rw [List.take_add_one, List.getElem?_eq_getElem h]
  show joinl (L.take k ++ [L[k]]) = _
  rw [joinl_push, List.getD_eq_getElem?_getD, List.getElem?_eq_getElem h]; rfl
theorem join_part (L : List (List Nat)) (k : Nat) : (joinl (L.take k)).length ≤ (joinl L).length := by
  conv => rhs; rw [← List.take_append_drop k L]
  unfold joinl
  rw [List.flatMap_append, List.length_append]; omega

set_option maxHeartbeats 4000000 in
set_option maxRecDepth 100000 in
theorem join_is {L : List (List Nat)} {A : Option Addr} {c : Nat} {w : World} (h : RdL w A c L) (hl : L.length ≤ 1000) (hj : (joinl L).length ≤ 1000000) : Calls Tryd.prog 14 #[.slice A L.length c] w (Ret9 w (.string (st9 (joinl L)))) := by
  have H := Lib.hid h
  have HJ := Lib.hid hj
  clear h hj
  go_enter Tryd.func14, Tryd.ntmps14
  go_wp2_with fail
  generalize hW : World.alloc w _ = W0
  have HB0 : Hid (Below w.heap.size w W0) := by show Below _ _ _; rw [← hW]; exact (Below.refl _ _).alloc (Nat.le_refl _) _
  have X0 : Hid (Lib.IsBuilder 43 5 w.heap.size w.heap.size [] W0) := by show Lib.IsBuilder _ _ _ _ _ _; rw [← hW]; exact Lib.fresh_isBuilder _ _ _
  clear hW
  go_loopw [8] (fun kv wr => ∃ k : Nat, kv = .int .i64 k ∧ k ≤ L.length ∧ Lib.IsBuilder 43 5 w.heap.size w.heap.size (Lib.strCells (st9 (joinl (L.take k)))) wr ∧ Below w.heap.size w wr) (fun kv _ => L.length - (intOf kv).toNat)
  case atStart => exact ⟨0, rfl, Nat.zero_le _, X0.out, HB0.out⟩
  case round =>
    obtain ⟨k, rfl, hk, hx, hb⟩ := hrel
    clear X0 HB0
    have X := Lib.hid hx
    have HB := Lib.hid hb
    clear hx hb
    rcases Nat.lt_or_ge k L.length with hlt | hge
    · obtain ⟨b, rfl, h1, h2, h3, h4, h5⟩ := (H.out.on HB.out).at_ hlt
      have HT : Hid (joinl (L.take (k + 1)) = joinl (L.take k) ++ (L.getD k [] ++ [10])) := join_take hlt
      obtain ⟨T, hT⟩ : ∃ T, L.getD k [] = T := ⟨_, rfl⟩
      rw [hT] at HT h5
      clear hT
      go_wp2_with fail
      have HBA := Lib.hid (HB.out.alloc HB.out.size (.cells #[.int .i64 ((k : Int) + 1), .string (st9 T)] 32))
      have XA := Lib.hid (isb_on X.out ((Below.refl _ _).alloc (Nat.le_refl _) (.cells #[.int .i64 ((k : Int) + 1), .string (st9 T)] 32)))
      have HLN := Lib.hid (join_part L (k + 1))
      rw [HT.out, List.length_append, List.length_append] at HLN
      obtain ⟨acc, ha⟩ : ∃ acc, joinl (L.take k) = acc := ⟨_, rfl⟩
      rw [ha] at XA HLN HT
      clear ha X h1 h2 h3 h4 h5
      generalize hWA : World.alloc wr _ = WA at HBA XA ⊢
      clear hWA
      refine (Tryd.Builder_WriteString w.heap.size w.heap.size (Lib.strCells (st9 acc)) (st9 T) WA XA.out (by rw [cells_size, st9_size]; have := HLN.out; have := HJ.out; omega) HBA.out.size).mono ?_
      rintro e w2 ⟨rfl, hx, hb⟩
      rw [cells_app] at hx
      have X2 := Lib.hid hx
      have HB2 := Lib.hid (HBA.out.trans hb)
      clear hx hb XA HBA
      go_wp2_with fail
      refine (Tryd.Builder_WriteByte w.heap.size w.heap.size (Lib.strCells (st9 (acc ++ T))) 10 w2 (.inr X2.out) (by rw [cells_size, List.length_append]; have := HLN.out; have := HJ.out; omega) HB2.out.size).mono ?_
      rintro e w3 ⟨rfl, hx, hb⟩
      rw [show [Value.int .u8 10] = Lib.strCells (st9 [10]) from rfl, cells_app, List.append_assoc, ← HT.out] at hx
      have X3 := Lib.hid hx
      have HB3 := Lib.hid (HB2.out.trans hb)
      clear hx hb X2 HB2
      go_wp2_with fail
      go_roundw
      case rel => exact ⟨k + 1, by go_num, by omega, .inr X3.out, HB3.out⟩
      case measure => simp [intOf] <;> omega
    · obtain rfl : k = L.length := by omega
      have XE : Hid (Lib.IsBuilder 43 5 w.heap.size w.heap.size (Lib.byteCells ((joinl L).map UInt8.ofNat)) wr) := by
        show Lib.IsBuilder _ _ _ _ _ _
        have := X.out
        rw [List.take_length] at this
        exact this
      clear X
      go_wp2_with fail
      refine (Tryd.Builder_String_any w.heap.size w.heap.size ((joinl L).map UInt8.ofNat) wr XE.out HB.out.size).mono ?_
      rintro e w2 ⟨rfl, hb2⟩
      have HB2 := Lib.hid (HB.out.trans hb2)
      clear hb2 XE
      go_wp2_with fail
      go_ret
      exact ⟨rfl, HB2.out⟩

end Go.Proofs.YthpoplgejenpgaaDoor
