/- What the proofs of this layer need of the layer Dig, in one text. -/
import Derived.Test.YthlhpgphmfnlgaaGreatAllDigC
import Derived.Lib.OthersKept
import Derived.WalkSmall
import Derived.Laws.RangeAny
import Derived.Laws.RangeString
import Derived.Test.YthlhpgphmfnlgaaGreatAllMulC
import Derived.Test.YthlhpgphmfnlgaaGreatAllNatE
set_option maxRecDepth 100000
set_option maxHeartbeats 32000000
set_option linter.unusedVariables false
set_option linter.unusedSimpArgs false
/-
 Contracts of layer 4, the fourth part: Parse.
-/
namespace Go.Proofs.YthlhpgphmfnlgaaGreat
open Go.RowKit
def codes (s : ByteArray) : List Nat := s.data.toList.map UInt8.toNat
theorem codes_len (s : ByteArray) : (codes s).length = s.size := by
 show (s.data.toList.map _).length = s.data.size
 rw [List.length_map, Array.length_toList]
theorem codes_get (s : ByteArray) (i : Nat) (h : i < s.size) : gd (codes s) i = (s[i]'h).toNat := by
 have h' : i < s.data.toList.length := by rw [Array.length_toList]; exact h
 unfold gd codes
 rw [List.getD_eq_getElem?_getD, List.getElem?_map, List.getElem?_eq_getElem h']
 rfl
theorem codes_take (s : ByteArray) (i : Nat) (h : i < s.size) : (codes s).take (i + 1) = (codes s).take i ++ [(s[i]'h).toNat] := by
 rw [← codes_get s i h, List.take_add_one, gd_of_lt (by rw [codes_len]; exact h)]; rfl
theorem codes_str {l : List Nat} (h : ∀ c ∈ l, c < 256) : codes (str l) = l := by
 unfold str codes
 rw [List.map_map]
 show List.map _ l = l
 conv => rhs; rw [← List.map_id l]
 refine List.map_congr_left fun c hc => ?_
 simp
 have := h c hc
 omega
theorem not_digs {s : ByteArray} {i : Nat} (h : i < s.size) (hc : (s[i]'h).toNat < 48 ∨ 57 < (s[i]'h).toNat) : ¬ digs (codes s) := fun hd => by
 have := hd (s[i]'h).toNat (by
   unfold codes
   refine List.mem_map.2 ⟨s[i]'h, ?_, rfl⟩
   exact Array.mem_toList_iff.2 (Array.getElem_mem (xs := s.data) h))
 omega
def RetParse (W : World) (l : List Nat) (e : Ending) (w' : World) : Prop :=
 (digs l ∧ RetSub W (pv l) e w') ∨ (¬ digs l ∧ RetVal W (.tuple #[.slice none 0 0, .int .i64 3]) e w')
theorem str_ne {s : ByteArray} (h : 0 < s.size) : (s.toList == (ByteArray.mk #[]).toList) = false ∧ (s.toList == []) = false ∧ s.toList.isEmpty = false ∧ ¬ s.toList = [] := by
 have hl : s.toList.length = s.size := by rw [ByteArray.toList_eq, Array.length_toList]; rfl
 have hne : s.toList ≠ [] := fun h => by rw [h] at hl; simp at hl; omega
 have he : (ByteArray.mk #[]).toList = [] := by rw [ByteArray.toList_eq]
 rw [he]
 refine ⟨by simpa using hne, by simpa using hne, by simpa using hne, hne⟩
end Go.Proofs.YthlhpgphmfnlgaaGreat
/-
 Layer 4: the contracts as the laws ask for them; the law's own examples (awake) answer true, whatever the memory.
-/
namespace Go.Proofs.YthlhpgphmfnlgaaGreat
open Go.RowKit
theorem drop_is {A : Option Addr} {n c a k m : Nat} {v : Int} {w : World} (h : Num w w.heap.size A n c a) (hn : n ≤ 1000000) (hk : k ≤ 9223372036854775807) (hv : v = k) (hm : a / 10 ^ k = m) :
   Calls Tryz.prog 78 #[.slice A n c, .int .i64 v] w (RetSub w m) := by
 subst hv; subst hm; exact drop_any A n c a k w h hn hk
theorem count_is {A : Option Addr} {n c a B m : Nat} {w : World} (h : Num w B A n c a) (hn : n ≤ 1000000) (hm : nd a = m) :
   Calls Tryz.prog 116 #[.slice A n c] w fun e w' => e = .returned (.int .i64 (m : Nat)) ∧ w = w' := by
 subst hm; exact count_any A n c a B w h hn
theorem noughts_is {A : Option Addr} {n c a B m : Nat} {w : World} (h : Num w B A n c a) (hn : n ≤ 1000000) (hm : tz a = m) :
   Calls Tryz.prog 77 #[.slice A n c] w fun e w' => e = .returned (.int .i64 (m : Nat)) ∧ w = w' := by
 subst hm; exact noughts_any A n c a B w h hn
theorem num_none (w : World) (B : Nat) : Num w B none 0 0 0 := by rw [Num, dg_zero]; exact Lim.nil
def t1 : Nat := 1000000005
end Go.Proofs.YthlhpgphmfnlgaaGreat
/-
 The walk of the law DigitsTens.
-/
namespace Go.Proofs.YthlhpgphmfnlgaaGreat
open Go.RowKit
theorem pow10_len {N k : Nat} (h : N < 9 * k) : (dg (10 ^ N)).length ≤ k := by
 refine dg_len_le ?_
 rw [pow9]
 exact Nat.pow_lt_pow_right (by omega) h
end Go.Proofs.YthlhpgphmfnlgaaGreat
