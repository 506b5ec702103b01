/- What the proof needs, texts DigR, in one text. -/
import Derived.Test.YtdpkbglfebimcaaGreatDoorAll10
import Derived.Test.YtdpkbglfebimcaaGreatDoorAll08
set_option linter.unusedVariables false
set_option linter.unusedSimpArgs false
set_option maxRecDepth 100000
set_option maxHeartbeats 32000000
namespace Go.Proofs.YtdpkbglfebimcaaGreatDoor.Num
open Go.RowKit
theorem str_size (l : List Nat) : (str l).size = l.length := by
 show (l.map UInt8.ofNat).toArray.size = _
 simp
theorem str_append (x y : List Nat) : str x ++ str y = str (x ++ y) := by
 unfold str
 rw [ByteArray.mk_append_mk, List.map_append]
theorem str_add (x y : List Nat) (h : x.length + y.length ≤ 9223372036854775807) (w : World) : (Op.stringOp .add (str x) (str y)).run Tryz.prog w = .ok (.string (str (x ++ y))) w := by
 rw [run_string_add_sum w _ _ (by rw [str_size, str_size]; omega), str_append]
theorem byt_conv {w : World} {B n c : Nat} {A : Option Addr} {ys : List Nat} (h : Byt w B A n c ys) (hn : 0 < n) (dst : TypeId) (hd : Tryz.prog.underlying dst = some .string) : (convert 123 dst (.slice A n c)).run Tryz.prog w = .ok (.string (str ys)) w := by
 obtain ⟨b, o, rfl, _, hc⟩ := h.at_ hn
 rw [run_convert_bytes_arg w 123 5 Tryz.underlying123 Tryz.underlying5 b o n c (ys.map fun (y : Nat) => (y : Int)) (by rw [List.length_map]; exact h.len) (fun i hi => ?_) dst hd, strOfNums_str]
 rw [hc i hi]
 unfold gd
 rw [List.getD_eq_getElem?_getD, List.getD_eq_getElem?_getD, List.getElem?_map, List.getElem?_eq_getElem (by rw [h.len]; exact hi)]
 rfl
theorem byt_one (w : World) (y : Nat) (v : Int) (hv : v = y) : Byt (w.alloc (.cells #[.int .u8 v] 5)) (w.heap.size + 1) (some ⟨w.heap.size, 0, none⟩) 1 1 [y] := by
 subst hv
 refine ⟨rfl, Nat.le_refl _, by unfold maxLen; omega, .inr ⟨w.heap.size, 0, rfl, by omega, fun j u hu => ?_⟩, fun h => by cases h⟩
 rw [cell_of_row _ w.heap.size _ _ 5 (0, 0) (heap_alloc_new w _), ← Array.getElem?_toList, Nat.zero_add]
 exact hu
theorem refText_any (k : Nat) : ∀ (A : Option Addr) (n c a : Nat) (w : World), Num w w.heap.size A n c a → n ≤ 10000 → Hid (nd a ≤ k) →
  Calls Tryz.prog 97 #[.slice A n c] w (RetVal w (.string (str (txt a)))) := by
 induction k with
 | zero => intro A n c a w _ _ hk; exact absurd hk.out (by have := nd_pos a; omega)
 | succ k ih =>
  intro A n c a w h hn hk
  have IH := Lib.hid ih
  have H := Lib.hid h
  have HN := nd_le_len h.len
  clear ih h
  go_enter Tryz.func97, Tryz.ntmps97
  go_wp2_with fail
  refine (rsmall_is (N := 10) (q := a / 10) (r := a % 10) H.out (by omega) (by omega) (by omega) rfl rfl rfl).mono ?_; rintro e w1 ⟨A1, n1, c1, rfl, h1, hb1⟩
  have H1 := Lib.hid h1
  have HB1 := Lib.hid hb1
  have hr : a % 10 < 10 := Nat.mod_lt _ (by omega)
  have hn1 : n1 ≤ n := by rw [← h1.len, ← H.out.len]; exact dg_len_mono (Nat.div_le_self _ _)
  have hl1 := Lib.hid h1.len
  obtain ⟨r, hrr⟩ : ∃ r, r = a % 10 := ⟨_, rfl⟩
  have HR := Lib.hid hrr
  rw [← hrr] at hr ⊢
  clear h1 hb1 hrr
  have hcv := byt_conv (byt_one w1 (48 + r) (48 + (r : Int)) (by omega)) (by omega)
  have HB2 : Hid (Below w.heap.size w (w1.alloc (.cells #[.int .u8 (48 + (r : Int))] 5))) := HB1.out.alloc HB1.out.size _
  rcases Nat.lt_or_ge a 10 with h10 | h10
  ·obtain rfl : n1 = 0 := by
    rw [← hl1.out, show a / 10 = 0 by omega, dg_zero]; rfl
   have HE : Hid (txt a = [48 + r]) := by show _ = _; rw [txt_lt h10, HR.out, Nat.mod_eq_of_lt h10]
   clear hl1
   go_wp2_with fail
   go_ret
   exact ⟨by rw [HE.out]; rfl, HB2.out⟩
  ·have hn0 : 0 < n1 := by
    have := dg_len_pos hl1.out (by omega); exact this
   have hne : ((n1 : Int) == 0) = false := by simp; omega
   have HE : Hid (txt a = txt (a / 10) ++ [48 + r]) := by show _ = _; rw [txt_ge h10, HR.out]
   have HL : (txt (a / 10)).length ≤ 1000000 := by
    have := nd_ge h10
    have e : (txt (a / 10)).length = nd (a / 10) := rfl
    omega
   have hadd := str_add (txt (a / 10)) [48 + r] (by simp; omega)
   have HC := Lib.hid (IH.out A1 n1 c1 (a / 10) (w1.alloc (.cells #[.int .u8 (48 + (r : Int))] 5)) (((H1.out.step (Nat.le_refl _) ((Below.refl _ _).alloc (Nat.le_refl _) _))).more (by simp)) (by omega) (by have := nd_ge h10; have := hk.out; show _ ≤ _; omega))
   clear hl1 HL
   go_wp2_with fail
   refine HC.out.mono ?_; rintro e w3 ⟨rfl, hb3⟩
   have HB3 := Lib.hid (HB2.out.trans (hb3.mono HB2.out.size))
   clear hb3 HC
   go_wp2_with fail
   go_ret
   exact ⟨by rw [HE.out]; rfl, HB3.out⟩
theorem refText_is {A : Option Addr} {n c a : Nat} {w : World} {l : List Nat} (h : Num w w.heap.size A n c a) (hn : n ≤ 10000) (hl : txt a = l) :
  Calls Tryz.prog 97 #[.slice A n c] w (RetVal w (.string (str l))) := by
 subst hl; exact refText_any (nd a) A n c a w h hn (Nat.le_refl _)
theorem str_get {l : List Nat} (h : ∀ c ∈ l, c < 256) (i : Nat) (hi : i < (str l).size) : ((str l)[i]'hi).toNat = gd l i := by
 rw [← codes_get, codes_str h]
theorem digs_lt {l : List Nat} (h : digs l) : ∀ c ∈ l, c < 256 := fun c hc => by have := h c hc; omega
theorem refNoughts_any (A : Option Addr) (n c a : Nat) (w : World) (h : Num w w.heap.size A n c a) (hn : n ≤ 10000) :
  Calls Tryz.prog 59 #[.slice A n c] w (RetVal w (.int .i64 (tz a : Nat))) := by
 rcases Nat.eq_zero_or_pos a with h0 | h0
 ·subst h0
  obtain rfl : n = 0 := by rw [← h.len, dg_zero]; rfl
  have HE := Lib.hid tz_zero
  clear h
  go_enter Tryz.func59, Tryz.ntmps59
  go_wp2_with fail
  go_ret
  exact ⟨by rw [HE.out]; rfl, Below.refl _ _⟩
 ·have hn0 : 0 < n := dg_len_pos h.len h0
  have hne : ((n : Int) == 0) = false := by simp; omega
  have C := Lib.hid (refText_is h hn rfl)
  obtain ⟨s, hs⟩ : ∃ s, s = str (txt a) := ⟨_, rfl⟩
  have HS : s.size = nd a := by rw [hs]; exact str_size _
  have HG : Hid (∀ j, j < nd a → ∀ hi : nd a - 1 - j < s.size, (s[nd a - 1 - j]'hi).toNat = 48 + a / 10 ^ j % 10) := by
   intro j hj hi
   subst hs
   rw [str_get (digs_lt (digs_txt a))]
   exact txt_get j a hj
  have HL := nd_le_len h.len
  have HT := tz_lt h0
  have hT0 := Lib.hid h0
  rw [← hs] at C
  clear hs h
  go_enter Tryz.func59, Tryz.ntmps59
  go_wp2_with fail
  refine C.out.mono ?_; rintro e w1 ⟨rfl, hb1⟩
  have HB1 := Lib.hid hb1
  clear hb1 C
  go_wp2_with fail
  obtain ⟨L, hL⟩ : ∃ L, L = nd a := ⟨_, rfl⟩
  rw [← hL] at HS HG HL HT
  have HLL := Lib.hid hL
  have hsz : s.size ≤ 100000 := by rw [HS]; omega
  have hsz1 : tz a < s.size := by rw [HS]; exact HT
  have HSS := Lib.hid HS
  clear hL HS
  go_loop [4] (fun nv => ∃ j : Nat, j ≤ tz a ∧ nv = .int .i64 j ∧ tz a = j + tz (a / 10 ^ j) ∧ 0 < a / 10 ^ j) (fun nv => tz a - (intOf nv).toNat)
  case atStart => exact ⟨0, Nat.zero_le _, rfl, by rw [Nat.pow_zero, Nat.div_one, Nat.zero_add], by rw [Nat.pow_zero, Nat.div_one]; exact hT0.out⟩
  case round =>
   obtain ⟨j, hj, rfl, htz, hp⟩ := hrel
   have hjL : L - 1 - j < s.size := by rw [HSS.out]; omega
   have hg := HG.out j (by omega) hjL
   obtain ⟨m, hm⟩ : ∃ m, m = L - 1 - j := ⟨_, rfl⟩
   have ei : (s.size : Int) - 1 - (j : Int) = (m : Int) := by rw [HSS.out]; omega
   have hms : m < s.size := by omega
   have hg' : (s[m]'hms).toNat = 48 + a / 10 ^ j % 10 := by subst hm; exact hg
   clear hg hm hjL
   by_cases hz : a / 10 ^ j % 10 = 0
   ·obtain ⟨hs1, hs2⟩ := tz_step htz hp hz
    have X1 := Lib.hid hs1
    have X2 := Lib.hid hs2
    have hg1 : (((s[m]'hms).toNat : Int) == 48) = true := by rw [hg', hz]; rfl
    have hj1 : j + 1 ≤ tz a := by rw [hs1]; omega
    obtain ⟨T, hT⟩ : ∃ T, T = tz a := ⟨_, rfl⟩
    have HTT := Lib.hid hT
    clear hs1 hs2 hz hp htz hg'
    go_wp2_with fail
    go_round
    case rel => exact ⟨j + 1, hj1, by go_num, X1.out, X2.out⟩
    case measure => simp [intOf]; omega
   ·have X1 := Lib.hid (tz_stop htz hz)
    have hg1 : (((s[m]'hms).toNat : Int) == 48) = false := by rw [hg', beq_eq_false_iff_ne]; omega
    clear hz hp htz hg'
    go_wp2_with fail
    go_ret
    exact ⟨by rw [X1.out]; rfl, HB1.out⟩
end Go.Proofs.YtdpkbglfebimcaaGreatDoor.Num
