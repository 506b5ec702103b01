/- What the proofs of this layer need of the layer Dig, in one text. -/
import Derived.Test.YtjkandnbjbfeiaaGreatDoorAllDigE
import Derived.Deep.RegionWith
import Derived.IntWalk
import Derived.Test.YtjkandnbjbfeiaaGreatDoorAllDigD
set_option linter.unusedVariables false
set_option linter.unusedSimpArgs false

/-
  Contracts of layer 4, the sixth part: the document's Parse, Drop.
-/
namespace Go.Proofs.YtjkandnbjbfeiaaGreatDoor.Num
open Go.RowKit

theorem pv_len {l : List Nat} (h : digs l) : (dg (pv l)).length ≤ l.length :=
  dg_len_le (Nat.lt_of_lt_of_le (pv_lt h) (Nat.pow_le_pow_left (by omega) _))

theorem Env.one4 {w : World} {A1 : Option Addr} {n1 c1 a : Nat} (h1 : Num w w.heap.size A1 n1 c1 a) : Hid (Env w w [(A1, n1, c1, a)]) := by
  refine ⟨Below.refl _ _, fun q hq => ?_⟩
  rcases List.mem_cons.1 hq with rfl | hq
  · exact h1
  · cases hq
theorem len_of_le {w : World} {B n c a m : Nat} {A : Option Addr} (h : Num w B A n c a) (ha : (dg a).length ≤ m) : n ≤ m := by rw [← h.len]; exact ha
theorem dg_len_ten {x n : Nat} (h : (dg x).length ≤ n) : (dg (x * 10)).length ≤ n + 1 := by
  have := dg_len_mul x 10
  have e : (dg 10).length = 1 := by rw [dg_pos (by omega), dg_zero]; rfl
  omega

theorem u8_u64 {d : Nat} (h : d ≤ 9) : IntKind.u64.wrap (IntKind.u8.wrap (d : Int)) = (d : Int) := by
  have e : IntKind.u8.wrap (d : Int) = (d : Int) := IntWalk.u8_in _ ⟨by omega, by omega⟩
  rw [e]; exact u64_same (by omega)

set_option maxRecDepth 100000 in
theorem refParse_empty (w : World) : Calls Tryz.prog 79 #[.string ⟨#[]⟩] w (RetVal w (.tuple #[.slice none 0 0, .int .i64 2])) := by
  go_enter Tryz.func79, Tryz.ntmps79
  go_wp2
  go_ret2
  exact ⟨rfl, Below.refl _ _⟩

set_option maxHeartbeats 4000000 in
set_option maxRecDepth 100000 in
theorem refParse_any (s : ByteArray) (w : World) (h0 : 0 < s.size) (hs : s.size ≤ 10000) : Calls Tryz.prog 79 #[.string s] w (RetParse w (codes s)) := by
  obtain ⟨he1, he2, he3, he4⟩ := str_ne h0
  go_enter Tryz.func79, Tryz.ntmps79
  go_wp2
  clear he1 he2 he3 he4
  go_loopw [4, 5] (fun ov iv wr => ∃ (i n c : Nat) (A : Option Addr), i ≤ s.size ∧ iv = .int .i64 i ∧ ov = .slice A n c ∧ Num wr wr.heap.size A n c (pv ((codes s).take i)) ∧ digs ((codes s).take i) ∧ Below w.heap.size w wr) (fun _ iv _ => s.size - (intOf iv).toNat)
  case atStart => exact ⟨0, 0, 0, none, Nat.zero_le _, rfl, rfl, by rw [List.take_zero, pv_nil, Num, dg_zero]; exact Lim.nil, fun c hc => by simp at hc, Below.refl _ _⟩
  case round =>
    obtain ⟨i, n, c, A, hi, rfl, rfl, hn, hdg, hb⟩ := hrel
    have hn1 : n ≤ 10000 := by
      have := pv_len hdg
      rw [hn.len, List.length_take] at this
      omega
    have H := Lib.hid hn
    have HD := Lib.hid hdg
    have HB := Lib.hid hb
    clear hn hdg hb
    rcases Nat.lt_or_ge i s.size with hp | hp
    · obtain ⟨ch, hch⟩ : ∃ ch, (s[i]'hp).toNat = ch := ⟨_, rfl⟩
      by_cases hc : 48 ≤ ch ∧ ch ≤ 57
      · obtain ⟨hc1, hc2⟩ := hc
        have HT := Lib.hid (codes_take s i hp)
        have HV : Hid (pv ((codes s).take i) * 10 + (ch - 48) = pv ((codes s).take (i + 1))) := by
          show _ = _
          rw [HT.out, hch, pv_snoc, Nat.mul_comm]
        have HD2 : Hid (digs ((codes s).take (i + 1))) := by
          show digs _
          rw [HT.out, hch]; exact digs_append.2 ⟨HD.out, digs_one ⟨hc1, hc2⟩⟩
        have E2 : Hid (Env wr.drew wr.drew [(A, n, c, pv ((codes s).take i))]) := Env.one4 (Lim.below H.out (Below.refl wr.heap.size wr).drew)
        obtain ⟨X, hX⟩ : ∃ X, X = pv ((codes s).take i) := ⟨_, rfl⟩
        obtain ⟨Y, hY⟩ : ∃ Y, Y = pv ((codes s).take (i + 1)) := ⟨_, rfl⟩
        have HY := Lib.hid hY
        rw [← hX] at HV E2 H
        have H0 := H
        rw [← hY] at HV
        clear hX hY HT H
        obtain ⟨d, hd⟩ : ∃ d, d = ch - 48 := ⟨_, rfl⟩
        rw [← hd] at HV
        have hd1 : ((ch : Int) - 48) = (d : Int) := by omega
        have hd9 : d ≤ 9 := by omega
        clear HD hd
        have LX : Hid ((dg (X * 10)).length ≤ 10001) := by show _ ≤ _; exact dg_len_ten (by rw [H0.out.len]; exact hn1)
        have LD : Hid ((dg d).length ≤ 3) := by show _ ≤ _; exact len_of_u64 (by omega)
        clear H0
        go_wp2
        go_region_with (first | (go_at_call 91; refine (refTimes_is (a := X) (l := 10) (m := X * 10) (Env.get E2 (A := A) (n := n) (c := c) (by simp)) (by omega) (by omega) rfl).mono ?_; rintro e w22 ⟨AT, nT, cT, rfl, h, hb⟩; replace E2 := Env.push E2 hb h; have hT : nT ≤ 10001 := len_of_le h LX.out; clear h hb) | (go_at_call 92; refine (refMk_any d _ (u8_u64 (by omega)) (by omega) _).mono ?_; rintro e w23 ⟨AM, nM, cM, rfl, h, hb⟩; replace E2 := Env.push E2 hb h; have hM : nM ≤ 3 := len_of_le h LD.out; clear h hb) | (go_at_call 90; refine (refAdd_is (a := X * 10) (b := d) (m := Y) (Env.get E2 (A := AT) (n := nT) (c := cT) (by simp)) (Env.get E2 (A := AM) (n := nM) (c := cM) (by simp)) (by omega) (by omega) HV.out).mono ?_; rintro e w24 ⟨A5, n5, c5, rfl, h, hb⟩; replace E2 := Env.push E2 hb h; clear h hb))
        all_goals
          go_wp2
          go_roundw
          case rel => exact ⟨i + 1, n5, c5, A5, by omega, by go_num, rfl, by rw [← HY.out]; exact Env.get E2 (by simp), HD2.out, HB.out.drew.trans (E2.out.1.mono HB.out.drew.size)⟩
          case measure => simp [intOf]; omega
      · have HE := Lib.hid (not_digs hp (by omega))
        have hcc : ch < 48 ∨ 57 < ch := by omega
        clear hc
        rcases hcc with hc | hc
        · go_wp2_with fail
          go_ret2
          exact .inr ⟨HE.out, rfl, HB.out⟩
        · go_wp2_with fail
          go_ret2
          exact .inr ⟨HE.out, rfl, HB.out⟩
    · obtain rfl : i = s.size := by omega
      have h1 : (codes s).take s.size = codes s := List.take_of_length_le (by rw [codes_len]; exact Nat.le_refl _)
      rw [h1] at H HD
      clear h1
      go_wp2_with fail
      go_ret2
      exact .inl ⟨HD.out, _, _, _, rfl, H.out, HB.out⟩

theorem str_take (l : List Nat) (k : Nat) : (str l).extract 0 k = str (l.take k) := by
  unfold str
  rw [ByteArray.extract_mk]
  simp

end Go.Proofs.YtjkandnbjbfeiaaGreatDoor.Num

/-
  The walk of the law DigitsSays.
-/
namespace Go.Proofs.YtjkandnbjbfeiaaGreatDoor.Num
open Go.RowKit

set_option maxRecDepth 100000 in
theorem rparse_is {s : ByteArray} {m : Nat} (hd : digs (codes s)) (hm : pv (codes s) = m) (h0 : 0 < s.size) (hs : s.size ≤ 10000) (w : World) :
    Calls Tryz.prog 79 #[.string s] w (RetSub w m) := by
  subst hm
  refine (refParse_any s w h0 hs).mono fun e w' h => ?_
  rcases h with ⟨_, h⟩ | ⟨h, _⟩
  · exact h
  · exact absurd hd h
set_option maxRecDepth 100000 in
theorem rparse_no {s : ByteArray} (hd : ¬ digs (codes s)) (h0 : 0 < s.size) (hs : s.size ≤ 10000) (w : World) :
    Calls Tryz.prog 79 #[.string s] w (RetVal w (.tuple #[.slice none 0 0, .int .i64 3])) := by
  refine (refParse_any s w h0 hs).mono fun e w' h => ?_
  rcases h with ⟨h, _⟩ | ⟨_, h⟩
  · exact absurd h hd
  · exact h
end Go.Proofs.YtjkandnbjbfeiaaGreatDoor.Num
