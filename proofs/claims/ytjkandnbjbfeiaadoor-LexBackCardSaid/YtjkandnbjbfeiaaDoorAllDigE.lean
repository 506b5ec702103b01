/- What the proofs of this layer need of the layer Dig, in one text. -/
import Derived.Test.YtjkandnbjbfeiaaDoorAllDigD
import Derived.Test.YtjkandnbjbfeiaaDoorAllDivC
set_option linter.unusedVariables false
set_option linter.unusedSimpArgs false

/-
  Contracts of layer 4, the fifth part: the document's Text, Count, Noughts.
-/
namespace Go.Proofs.YtjkandnbjbfeiaaDoor.Num
open Go.RowKit

theorem str_size (l : List Nat) : (str l).size = l.length := by
  show (l.map UInt8.ofNat).toArray.size = _
  simp
theorem str_append (x y : List Nat) : str x ++ str y = str (x ++ y) := by
  unfold str
  rw [ByteArray.mk_append_mk, List.map_append]
theorem str_add (x y : List Nat) (h : x.length + y.length ≤ 9223372036854775807) (w : World) : (Op.stringOp .add (str x) (str y)).run Tryd.prog w = .ok (.string (str (x ++ y))) w := by
  rw [run_string_add_sum w _ _ (by rw [str_size, str_size]; omega), str_append]
theorem byt_conv {w : World} {B n c : Nat} {A : Option Addr} {ys : List Nat} (h : Byt w B A n c ys) (hn : 0 < n) (dst : TypeId) (hd : Tryd.prog.underlying dst = some .string) : (convert 50 dst (.slice A n c)).run Tryd.prog w = .ok (.string (str ys)) w := by
  obtain ⟨b, o, rfl, _, hc⟩ := h.at_ hn
  rw [run_convert_bytes_arg w 50 5 Tryd.underlying50 Tryd.underlying5 b o n c (ys.map fun (y : Nat) => (y : Int)) (by rw [List.length_map]; exact h.len) (fun i hi => ?_) dst hd, strOfNums_str]
  rw [hc i hi]
  unfold gd
  rw [List.getD_eq_getElem?_getD, List.getD_eq_getElem?_getD, List.getElem?_map, List.getElem?_eq_getElem (by rw [h.len]; exact hi)]
  rfl
theorem byt_one (w : World) (y : Nat) (v : Int) (hv : v = y) : Byt (w.alloc (.cells #[.int .u8 v] 5)) (w.heap.size + 1) (some ⟨w.heap.size, 0, none⟩) 1 1 [y] := by
  subst hv
  refine ⟨rfl, Nat.le_refl _, by unfold maxLen; omega, .inr ⟨w.heap.size, 0, rfl, by omega, fun j u hu => ?_⟩, fun h => by cases h⟩
  rw [cell_of_row _ w.heap.size _ _ 5 (0, 0) (heap_alloc_new w _), ← Array.getElem?_toList, Nat.zero_add]
  exact hu

theorem str_get {l : List Nat} (h : ∀ c ∈ l, c < 256) (i : Nat) (hi : i < (str l).size) : ((str l)[i]'hi).toNat = gd l i := by
  rw [← codes_get, codes_str h]
theorem digs_lt {l : List Nat} (h : digs l) : ∀ c ∈ l, c < 256 := fun c hc => by have := h c hc; omega

end Go.Proofs.YtjkandnbjbfeiaaDoor.Num
