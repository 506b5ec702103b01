/- What the proof needs, texts DigS, DigV, in one text. -/
import Derived.Test.YtdpkbglfebimcaaGreatDoorAll21
import Derived.Deep.RegionWith
import Derived.IntWalk
import Derived.Test.YtdpkbglfebimcaaGreatDoorAll10
set_option linter.unusedVariables false
set_option linter.unusedSimpArgs false
set_option maxRecDepth 100000
set_option maxHeartbeats 32000000
namespace Go.Proofs.YtdpkbglfebimcaaGreatDoor.Num
open Go.RowKit
theorem pv_len {l : List Nat} (h : digs l) : (dg (pv l)).length ≤ l.length :=
 dg_len_le (Nat.lt_of_lt_of_le (pv_lt h) (Nat.pow_le_pow_left (by omega) _))
theorem Env.one4 {w : World} {A1 : Option Addr} {n1 c1 a : Nat} (h1 : Num w w.heap.size A1 n1 c1 a) : Hid (Env w w [(A1, n1, c1, a)]) := by
 refine ⟨Below.refl _ _, fun q hq => ?_⟩
 rcases List.mem_cons.1 hq with rfl | hq
 ·exact h1
 ·cases hq
theorem len_of_le {w : World} {B n c a m : Nat} {A : Option Addr} (h : Num w B A n c a) (ha : (dg a).length ≤ m) : n ≤ m := by rw [← h.len]; exact ha
theorem dg_len_ten {x n : Nat} (h : (dg x).length ≤ n) : (dg (x * 10)).length ≤ n + 1 := by
 have := dg_len_mul x 10
 have e : (dg 10).length = 1 := by rw [dg_pos (by omega), dg_zero]; rfl
 omega
theorem u8_u64 {d : Nat} (h : d ≤ 9) : IntKind.u64.wrap (IntKind.u8.wrap (d : Int)) = (d : Int) := by
 have e : IntKind.u8.wrap (d : Int) = (d : Int) := IntWalk.u8_in _ ⟨by omega, by omega⟩
 rw [e]; exact u64_same (by omega)
theorem refParse_any (s : ByteArray) (w : World) (h0 : 0 < s.size) (hs : s.size ≤ 10000) : Calls Tryz.prog 98 #[.string s] w (RetParse w (codes s)) := by
 obtain ⟨he1, he2, he3, he4⟩ := str_ne h0
 go_enter Tryz.func98, Tryz.ntmps98
 go_wp2
 clear he1 he2 he3 he4
 go_loopw [4, 5] (fun ov iv wr => ∃ (i n c : Nat) (A : Option Addr), i ≤ s.size ∧ iv = .int .i64 i ∧ ov = .slice A n c ∧ Num wr wr.heap.size A n c (pv ((codes s).take i)) ∧ digs ((codes s).take i) ∧ Below w.heap.size w wr) (fun _ iv _ => s.size - (intOf iv).toNat)
 case atStart => exact ⟨0, 0, 0, none, Nat.zero_le _, rfl, rfl, by rw [List.take_zero, pv_nil, Num, dg_zero]; exact Lim.nil, fun c hc => by simp at hc, Below.refl _ _⟩
 case round =>
  obtain ⟨i, n, c, A, hi, rfl, rfl, hn, hdg, hb⟩ := hrel
  have hn1 : n ≤ 10000 := by
   have := pv_len hdg
   rw [hn.len, List.length_take] at this
   omega
  have H := Lib.hid hn
  have HD := Lib.hid hdg
  have HB := Lib.hid hb
  clear hn hdg hb
  rcases Nat.lt_or_ge i s.size with hp | hp
  ·obtain ⟨ch, hch⟩ : ∃ ch, (s[i]'hp).toNat = ch := ⟨_, rfl⟩
   by_cases hc : 48 ≤ ch ∧ ch ≤ 57
   ·obtain ⟨hc1, hc2⟩ := hc
    have HT := Lib.hid (codes_take s i hp)
    have HV : Hid (pv ((codes s).take i) * 10 + (ch - 48) = pv ((codes s).take (i + 1))) := by
     show _ = _
     rw [HT.out, hch, pv_snoc, Nat.mul_comm]
    have HD2 : Hid (digs ((codes s).take (i + 1))) := by
     show digs _
     rw [HT.out, hch]; exact digs_append.2 ⟨HD.out, digs_one ⟨hc1, hc2⟩⟩
    have E2 : Hid (Env wr.drew wr.drew [(A, n, c, pv ((codes s).take i))]) := Env.one4 (Lim.below H.out (Below.refl wr.heap.size wr).drew)
    obtain ⟨X, hX⟩ : ∃ X, X = pv ((codes s).take i) := ⟨_, rfl⟩
    obtain ⟨Y, hY⟩ : ∃ Y, Y = pv ((codes s).take (i + 1)) := ⟨_, rfl⟩
    have HY := Lib.hid hY
    rw [← hX] at HV E2 H
    have H0 := H
    rw [← hY] at HV
    clear hX hY HT H
    obtain ⟨d, hd⟩ : ∃ d, d = ch - 48 := ⟨_, rfl⟩
    rw [← hd] at HV
    have hd1 : ((ch : Int) - 48) = (d : Int) := by omega
    have hd9 : d ≤ 9 := by omega
    clear HD hd
    have LX : Hid ((dg (X * 10)).length ≤ 10001) := by show _ ≤ _; exact dg_len_ten (by rw [H0.out.len]; exact hn1)
    have LD : Hid ((dg d).length ≤ 3) := by show _ ≤ _; exact len_of_u64 (by omega)
    clear H0
    go_wp2
    go_region_with (first | (go_at_call 132; refine (refTimes_is (a := X) (l := 10) (m := X * 10) (Env.get E2 (A := A) (n := n) (c := c) (by simp)) (by omega) (by omega) rfl).mono ?_; rintro e w22 ⟨AT, nT, cT, rfl, h, hb⟩; replace E2 := Env.push E2 hb h; have hT : nT ≤ 10001 := len_of_le h LX.out; clear h hb) | (go_at_call 95; refine (refMk_any d _ (u8_u64 (by omega)) (by omega) _).mono ?_; rintro e w23 ⟨AM, nM, cM, rfl, h, hb⟩; replace E2 := Env.push E2 hb h; have hM : nM ≤ 3 := len_of_le h LD.out; clear h hb) | (go_at_call 85; refine (refAdd_is (a := X * 10) (b := d) (m := Y) (Env.get E2 (A := AT) (n := nT) (c := cT) (by simp)) (Env.get E2 (A := AM) (n := nM) (c := cM) (by simp)) (by omega) (by omega) HV.out).mono ?_; rintro e w24 ⟨A5, n5, c5, rfl, h, hb⟩; replace E2 := Env.push E2 hb h; clear h hb))
    all_goals
     go_wp2
     go_roundw
     case rel => exact ⟨i + 1, n5, c5, A5, by omega, by go_num, rfl, by rw [← HY.out]; exact Env.get E2 (by simp), HD2.out, HB.out.drew.trans (E2.out.1.mono HB.out.drew.size)⟩
     case measure => simp [intOf]; omega
   ·have HE := Lib.hid (not_digs hp (by omega))
    have hcc : ch < 48 ∨ 57 < ch := by omega
    clear hc
    rcases hcc with hc | hc
    ·go_wp2_with fail
     go_ret2
     exact .inr ⟨HE.out, rfl, HB.out⟩
    ·go_wp2_with fail
     go_ret2
     exact .inr ⟨HE.out, rfl, HB.out⟩
  ·obtain rfl : i = s.size := by omega
   have h1 : (codes s).take s.size = codes s := List.take_of_length_le (by rw [codes_len]; exact Nat.le_refl _)
   rw [h1] at H HD
   clear h1
   go_wp2_with fail
   go_ret2
   exact .inl ⟨HD.out, _, _, _, rfl, H.out, HB.out⟩
theorem str_take (l : List Nat) (k : Nat) : (str l).extract 0 k = str (l.take k) := by
 unfold str
 rw [ByteArray.extract_mk]
 simp
theorem refDrop_any (A : Option Addr) (n c a k : Nat) (w : World) (h : Num w w.heap.size A n c a) (hn : n ≤ 1000) (hk : k ≤ 9223372036854775807) :
  Calls Tryz.prog 60 #[.slice A n c, .int .i64 k] w (RetSub w (a / 10 ^ k)) := by
 have C := Lib.hid (refText_is h (by omega) rfl)
 have HS : (str (txt a)).size = nd a := str_size _
 have HL := nd_le_len h.len
 clear h
 rcases Nat.lt_or_ge k (nd a) with hlt | hge
 ·have HT := take_txt k a hlt
  have HX : (str (txt a)).extract 0 (nd a - k) = str (txt (a / 10 ^ k)) := by rw [str_take, HT]
  have hnd := nd_pos (a / 10 ^ k)
  have HP := Lib.hid (refParse_any (str (txt (a / 10 ^ k))))
  have HSZ : (str (txt (a / 10 ^ k))).size = nd (a / 10 ^ k) := str_size _
  have HND : nd (a / 10 ^ k) ≤ nd a := by
   have := congrArg List.length HT
   rw [List.length_take] at this
   show (txt _).length ≤ _
   omega
  have HC : Hid (∀ w', Calls Tryz.prog 98 #[.string (str (txt (a / 10 ^ k)))] w' (RetSub w' (a / 10 ^ k))) := fun w' => by
   refine (HP.out w' (by omega) (by omega)).mono fun e w2 h => ?_
   rw [codes_str (digs_lt (digs_txt _))] at h
   rcases h with ⟨_, h⟩ | ⟨h, _⟩
   ·rw [pv_txt] at h; exact h
   ·exact absurd (digs_txt _) h
  obtain ⟨s, hs⟩ : ∃ s, s = str (txt a) := ⟨_, rfl⟩
  obtain ⟨t, ht⟩ : ∃ t, t = str (txt (a / 10 ^ k)) := ⟨_, rfl⟩
  obtain ⟨L, hL⟩ : ∃ L, L = nd a := ⟨_, rfl⟩
  rw [← hs] at C HS HX
  rw [← ht] at HX HC
  rw [← hL] at HS HX HL hlt
  clear hs ht hL HT HP HSZ HND hnd
  have e1 : (s.size : Int) - (k : Int) = ((L - k : Nat) : Int) := by omega
  have hb1 : k < s.size := by omega
  have hb2 : s.size ≤ 100000 := by omega
  obtain ⟨m, hm⟩ : ∃ m, m = L - k := ⟨_, rfl⟩
  rw [← hm] at HX e1
  have hms : m ≤ s.size := by omega
  clear hm HS
  go_enter Tryz.func60, Tryz.ntmps60
  go_wp2_with fail
  refine C.out.mono ?_; rintro e w1 ⟨rfl, hb1⟩
  have HB1 := Lib.hid hb1
  clear hb1 C
  go_wp2_with fail
  refine (HC.out _).mono ?_; rintro e w2 ⟨A2, n2, c2, rfl, h2, hb2⟩
  have H2 := Lib.hid h2
  have HB2 := Lib.hid (HB1.out.trans (hb2.mono HB1.out.size))
  clear h2 hb2
  go_wp2_with fail
  go_ret2
  exact ⟨_, _, _, rfl, H2.out, HB2.out⟩
 ·have HZ := Lib.hid (div_ge_nd hge)
  obtain ⟨s, hs⟩ : ∃ s, s = str (txt a) := ⟨_, rfl⟩
  obtain ⟨L, hL⟩ : ∃ L, L = nd a := ⟨_, rfl⟩
  rw [← hs] at C HS
  rw [← hL] at HS HL hge
  clear hs hL
  have hb1 : s.size ≤ k := by omega
  clear HS
  go_enter Tryz.func60, Tryz.ntmps60
  go_wp2_with fail
  refine C.out.mono ?_; rintro e w1 ⟨rfl, hb1⟩
  have HB1 := Lib.hid hb1
  clear hb1 C
  go_wp2_with fail
  go_ret2
  exact ⟨none, 0, 0, rfl, by rw [Num, HZ.out, dg_zero]; exact Lim.nil, HB1.out⟩
theorem rdrop_is {A : Option Addr} {n c a k m : Nat} {v : Int} {w : World} (h : Num w w.heap.size A n c a) (hn : n ≤ 1000) (hk : k ≤ 9223372036854775807) (hv : v = k) (hm : a / 10 ^ k = m) :
  Calls Tryz.prog 60 #[.slice A n c, .int .i64 v] w (RetSub w m) := by
 subst hv; subst hm; exact refDrop_any A n c a k w h hn hk
theorem rnoughts_is {A : Option Addr} {n c a m : Nat} {w : World} (h : Num w w.heap.size A n c a) (hn : n ≤ 10000) (hm : tz a = m) :
  Calls Tryz.prog 59 #[.slice A n c] w (RetVal w (.int .i64 (m : Nat))) := by
 subst hm; exact refNoughts_any A n c a w h hn
end Go.Proofs.YtdpkbglfebimcaaGreatDoor.Num
