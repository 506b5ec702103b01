/- What the proofs of this layer need of the layer Dig, in one text. -/
import Derived.Test.YtjkandnbjbfeiaaDoorAllDigB
import Derived.Laws.BytesArg
set_option linter.unusedVariables false
set_option linter.unusedSimpArgs false

/-
  Contracts of layer 4, the second part: rows of bytes; trimLeftByte, TrimLeft of noughts; Text.
-/
namespace Go.Proofs.YtjkandnbjbfeiaaDoor.Num
open Go.RowKit

/-- Bytes as they lie in cells. -/
def bvals (ys : List Nat) : List Value := ys.map (fun (y : Nat) => Value.int .u8 (y : Int))
theorem bvals_len (ys : List Nat) : (bvals ys).length = ys.length := by simp [bvals]
theorem bvals_get {ys : List Nat} {j : Nat} (h : j < ys.length) : (bvals ys)[j]? = some (.int .u8 (gd ys j : Nat)) := by
  unfold bvals; rw [List.getElem?_map, gd_of_lt h]; rfl
theorem bvals_set (ys : List Nat) (i x : Nat) : bvals (ys.set i x) = (bvals ys).set i (.int .u8 (x : Int)) := by simp [bvals, List.map_set]
/-- A text as Go has it. -/
def str (l : List Nat) : ByteArray := ⟨(l.map UInt8.ofNat).toArray⟩
theorem strOfNums_str (l : List Nat) : strOfNums (l.map fun (y : Nat) => (y : Int)) = str l := by
  unfold strOfNums str
  rw [List.map_map]
  congr 2

/-- The slice at A of n elements and capacity c reads as the bytes ys. -/
structure Byt (w : World) (B : Nat) (A : Option Addr) (n c : Nat) (ys : List Nat) : Prop where
  len : ys.length = n
  cap : n ≤ c
  room : c ≤ maxLen
  row : Row w B A (bvals ys)
  addr : A = none → c = 0
theorem Byt.nil {w : World} {B : Nat} : Byt w B none 0 0 [] := ⟨rfl, Nat.le_refl _, by simp [maxLen], .inl rfl, fun _ => rfl⟩
theorem Byt.below {w w' : World} {B n c : Nat} {A : Option Addr} {ys : List Nat} (h : Byt w B A n c ys) (hb : Below B w w') : Byt w' B A n c ys := ⟨h.len, h.cap, h.room, h.row.keep fun _ hp => hb.cell hp, h.addr⟩
theorem Byt.more {w : World} {B B' n c : Nat} {A : Option Addr} {ys : List Nat} (h : Byt w B A n c ys) (hB : B ≤ B') : Byt w B' A n c ys := ⟨h.len, h.cap, h.room, h.row.more hB, h.addr⟩
theorem Byt.at_ {w : World} {B n c : Nat} {A : Option Addr} {ys : List Nat} (h : Byt w B A n c ys) (hk : 0 < n) : ∃ b o, A = some ⟨b, o, none⟩ ∧ b < B ∧ ∀ j, j < n → w.cell? ⟨b, o + j, none⟩ = some (.int .u8 (gd ys j : Nat)) := by
  rcases h.row with h0 | ⟨b, o, rfl, hb, hc⟩
  · have := congrArg List.length h0
    rw [bvals_len, h.len] at this
    simp at this; omega
  · exact ⟨b, o, rfl, hb, fun j hj => hc j _ (bvals_get (by rw [h.len]; exact hj))⟩
/-- Without the first. -/
theorem Byt.tail {w : World} {B n c b o y : Nat} {ys : List Nat} (h : Byt w B (some ⟨b, o, none⟩) (n + 1) c (y :: ys)) (A : Option Addr) (hA : 0 < n → A = some ⟨b, o + 1, none⟩) (hA' : A = none → c - 1 = 0) : Byt w B A n (c - 1) ys := by
  have hl := h.len
  rw [List.length_cons] at hl
  refine ⟨by omega, by have := h.cap; omega, by have := h.room; omega, ?_, hA'⟩
  rcases Nat.eq_zero_or_pos n with h0 | h0
  · left
    rw [List.eq_nil_of_length_eq_zero (show ys.length = 0 by omega)]; rfl
  · obtain rfl := hA h0
    rcases h.row with h1 | ⟨b', o', he, hb, hc⟩
    · simp [bvals] at h1
    · injection he with he; injection he with h2 h3
      subst h2; subst h3
      refine .inr ⟨b, o + 1, rfl, hb, fun j u hu => ?_⟩
      have := hc (j + 1) u (by simpa [bvals] using hu)
      rwa [← Nat.add_assoc, Nat.add_right_comm] at this

theorem lz_nil : lz [] = [] := rfl

end Go.Proofs.YtjkandnbjbfeiaaDoor.Num

/-
  Contracts of layer 4, the third part: TrimLeft of noughts; Text.
-/
namespace Go.Proofs.YtjkandnbjbfeiaaDoor.Num
open Go.RowKit

/-- Block g is just the bytes ys. -/
def OwnB (w : World) (g : Nat) (ys : List Nat) : Prop := w.heap[g]? = some (.cells (bvals ys).toArray 5 (0, 0))
theorem OwnB.frozen {w : World} {g : Nat} {ys : List Nat} (h : OwnB w g ys) (i : Nat) : w.frozen? ⟨g, i, none⟩ = false := frozen_of_row w g i _ _ h
theorem OwnB.cell {w : World} {g : Nat} {ys : List Nat} (h : OwnB w g ys) {i : Nat} (hi : i < ys.length) : w.cell? ⟨g, i, none⟩ = some (.int .u8 (gd ys i : Nat)) := by
  rw [cell_of_row w g i _ _ (0, 0) h]
  simpa using bvals_get hi
theorem OwnB.store {w : World} {g : Nat} {ys : List Nat} (h : OwnB w g ys) (i : Nat) (x : Nat) (v : Int) (hv : v = x) : OwnB (w.setCell ⟨g, i, none⟩ (.int .u8 v)) g (ys.set i x) := by
  subst hv
  unfold OwnB at h ⊢
  rw [heap_setCell_same w g i _ _ _ h, bvals_set]
  simp
theorem OwnB.lt {w : World} {g : Nat} {ys : List Nat} (h : OwnB w g ys) : g < w.heap.size := by
  rcases Nat.lt_or_ge g w.heap.size with hlt | hge
  · exact hlt
  · unfold OwnB at h; rw [Array.getElem?_eq_none hge] at h; cases h
theorem OwnB.byt {w : World} {g n : Nat} {ys : List Nat} (h : OwnB w g ys) (hn : ys.length = n) (hl : n ≤ 1000000000000) : Byt w w.heap.size (some ⟨g, 0, none⟩) n n ys := by
  subst hn
  refine ⟨rfl, Nat.le_refl _, by unfold maxLen; omega, .inr ⟨g, 0, rfl, h.lt, fun j u hu => ?_⟩, fun h => by cases h⟩
  rw [cell_of_row w g (0 + j) _ _ (0, 0) h, Nat.zero_add]
  simpa using hu
theorem OwnB.of_made {w : World} {base n : Nat} (h : w.ownsRow base 5 1 (.slice (some ⟨base, 0, none⟩) n n) n (madeCells (Value.int .u8 0).cells (n * 1)).toList) : OwnB w base (List.replicate n 0) := by
  have e : (madeCells (Value.int .u8 0).cells (n * 1)).toList = bvals (List.replicate n 0) := by
    rw [Nat.mul_one]
    show (madeCells #[Value.int .u8 0] n).toList = _
    rw [toList_madeCells_one]
    simp [bvals]
  rw [e] at h
  rcases h.2 with ⟨h1, _⟩ | ⟨g, cap, cur, hv, _, hh, _, _, hsz, htk⟩
  · cases h1
  · injection hv with h1 h2 h3
    injection h1 with h1
    injection h1 with h1
    subst h1; subst h3
    unfold OwnB
    rw [hh, ← htk, List.take_of_length_le (by simp; omega)]

theorem info_byte : (Tryd.prog.info? 5).map (fun i => (i.zero, i.size, i.bytes)) = some (some (.int .u8 0), 1, 1) := by kernel_rfl

theorem text_set {t k d a n : Nat} (h : t = n + 1) (hd : d = 48 + a / 10 ^ k % 10) : (List.replicate t 0 ++ pad k a).set n d = List.replicate n 0 ++ pad (k + 1) a := by
  subst h; subst hd
  rw [pad_cons, List.set_append_left _ _ (by simp), List.replicate_succ', List.set_append_right _ _ (by simp)]
  simp
theorem text_end {n a : Nat} (h : (dg a).length = n) : lz (pad (9 * n) a) = if a = 0 then [] else txt a := by
  refine lz_pad _ ?_
  have := lt_pow_dg a
  rwa [h, pow9] at this
theorem text_conv {w : World} {B n c : Nat} {A : Option Addr} {a : Nat} (h : Byt w B A n c (txt a)) (dst : TypeId) (hd : Tryd.prog.underlying dst = some .string) : (convert 50 dst (.slice A n c)).run Tryd.prog w = .ok (.string (str (txt a))) w := by
  have hn : 0 < n := by rw [← h.len]; exact nd_pos a
  obtain ⟨b, o, rfl, _, hc⟩ := h.at_ hn
  rw [run_convert_bytes_arg w 50 5 Tryd.underlying50 Tryd.underlying5 b o n c ((txt a).map fun (y : Nat) => (y : Int)) (by rw [List.length_map]; exact h.len) (fun i hi => ?_) dst hd, strOfNums_str]
  rw [hc i hi]
  unfold gd
  rw [List.getD_eq_getElem?_getD, List.getD_eq_getElem?_getD, List.getElem?_map, List.getElem?_eq_getElem (by rw [h.len]; exact hi)]
  rfl

end Go.Proofs.YtjkandnbjbfeiaaDoor.Num
