/-
  The examples of layer 9 (awake) answer true, whatever the memory.
-/
import Derived.Test.YtkeiipnclkaeiaaDoorUtfG
set_option linter.unusedVariables false
set_option linter.unusedSimpArgs false
namespace Go.Proofs.YtkeiipnclkaeiaaDoor
open Go.RowKit

theorem size_is {s : ByteArray} {z : Nat} {w : World} (hT : Tabs9 w) (h : szl (bs9 s) = z) (hs : s.size ≤ 1000000) : Calls Tryd.prog 10 #[.string s] w (Ret9 w (.int .i64 (z : Int))) := h ▸ size_any s w hT hs
theorem refsize_is {s : ByteArray} {z : Nat} {w : World} (h : szl (bs9 s) = z) (hs : s.size ≤ 1000000) : Calls Tryd.prog 11 #[.string s] w (Ret9 w (.int .i64 (z : Int))) := h ▸ refsize_any s w hs
theorem bad_is {s : ByteArray} {z : Int} {w : World} (hT : Tabs9 w) (h : io9 (badl (bs9 s)) = z) (hs : s.size ≤ 1000000) : Calls Tryd.prog 12 #[.string s] w (Ret9 w (.int .i64 z)) := h ▸ bad_any s w hT hs
theorem refbad_is {s : ByteArray} {z : Int} {w : World} (h : io9 (badl (bs9 s)) = z) (hs : s.size ≤ 1000000) : Calls Tryd.prog 13 #[.string s] w (Ret9 w (.int .i64 z)) := h ▸ refbad_any s w hs
theorem right_is {s : ByteArray} {z : Bool} {w : World} (hT : Tabs9 w) (h : (badl (bs9 s) == none) = z) (hs : s.size ≤ 1000000) : Calls Tryd.prog 14 #[.string s] w (Ret9 w (.bool z)) := h ▸ right_any s w hT hs
theorem refright_is {s : ByteArray} {z : Bool} {w : World} (h : (badl (bs9 s) == none) = z) (hs : s.size ≤ 1000000) : Calls Tryd.prog 15 #[.string s] w (Ret9 w (.bool z)) := h ▸ refright_any s w hs
theorem count_is {s : ByteArray} {z : Nat} {w : World} (hT : Tabs9 w) (h : cntl (bs9 s) = z) (hs : s.size ≤ 1000000) : Calls Tryd.prog 16 #[.string s] w (Ret9 w (.int .i64 (z : Int))) := h ▸ count_any s w hT hs
theorem refcount_is {s : ByteArray} {z : Nat} {w : World} (h : cntl (bs9 s) = z) (hs : s.size ≤ 1000000) : Calls Tryd.prog 17 #[.string s] w (Ret9 w (.int .i64 (z : Int))) := h ▸ refcount_any s w hs
theorem cut_is {s t : ByteArray} {n : Int} {w : World} (hT : Tabs9 w) (h : s.extract 0 (cutl n.toNat (bs9 s)) = t) (hs : s.size ≤ 1000000) (hn : n ≤ 9223372036854775807) : Calls Tryd.prog 18 #[.string s, .int .i64 n] w (Ret9 w (.string t)) := h ▸ cut_any s n w hT hs hn
theorem refcut_is {s t : ByteArray} {n : Int} {w : World} (h : s.extract 0 (cutl n.toNat (bs9 s)) = t) (hs : s.size ≤ 1000000) : Calls Tryd.prog 20 #[.string s, .int .i64 n] w (Ret9 w (.string t)) := h ▸ refcut_any s n w hs
theorem pad_is {s t : ByteArray} {n : Int} {r : Bool} {w : World} (hT : Tabs9 w) (h : st9 (pad9 (bs9 s) n r) = t) (hs : s.size ≤ 1000000) : Calls Tryd.prog 19 #[.string s, .int .i64 n, .bool r] w (Ret9 w (.string t)) := h ▸ pad_any s n r w hT hs
theorem refpad_is {s t : ByteArray} {n : Int} {r : Bool} {w : World} (h : st9 (pad9 (bs9 s) n r) = t) (hs : s.size ≤ 1000000) : Calls Tryd.prog 21 #[.string s, .int .i64 n, .bool r] w (Ret9 w (.string t)) := h ▸ refpad_any s n r w hs
/-- What Encode answers: a text and an error. -/
def enS (x : Int) : ByteArray := if 0 ≤ x ∧ Sg x.toNat then st9 (enc x.toNat) else ⟨#[]⟩
def enE (x : Int) : Int := if 0 ≤ x ∧ Sg x.toNat then 0 else 1
theorem encode_is {x k : Int} {t : ByteArray} {w : World} (hT : Tabs9 w) (h : enS x = t) (hk : enE x = k) : Calls Tryd.prog 8 #[.int .i64 x] w (Ret9 w (.tuple #[.string t, .int .i64 k])) := by
  subst h; subst hk
  unfold enS enE
  by_cases hx : 0 ≤ x ∧ Sg x.toNat
  · rw [if_pos hx, if_pos hx]
    have := encode_yes x.toNat w hT hx.2
    rwa [Int.toNat_of_nonneg hx.1] at this
  · rw [if_neg hx, if_neg hx]; exact encode_no x w hx
theorem refencode_is {x k : Int} {t : ByteArray} {w : World} (h : enS x = t) (hk : enE x = k) : Calls Tryd.prog 9 #[.int .i64 x] w (Ret9 w (.tuple #[.string t, .int .i64 k])) := by
  subst h; subst hk
  unfold enS enE
  by_cases hx : 0 ≤ x ∧ Sg x.toNat
  · rw [if_pos hx, if_pos hx]
    have := refenc_yes x.toNat w hx.2
    rwa [Int.toNat_of_nonneg hx.1] at this
  · rw [if_neg hx, if_neg hx]; exact refenc_no x w hx
theorem bad_ex : badl [97, 195, 169] = none ∧ badl [97, 98, 255] = some 2 ∧ cntl [97, 195, 169, 255] = 3 := by
  refine ⟨?_, ?_, ?_⟩
  · rw [badl_step (by decide), show szl [97, 195, 169] = 1 by decide, show List.drop 1 [97, 195, 169] = [195, 169] from rfl, badl_step (by decide), show szl [195, 169] = 2 by decide, show List.drop 2 [195, 169] = ([] : List Nat) from rfl, badl_nil]; rfl
  · rw [badl_step (by decide), show szl [97, 98, 255] = 1 by decide, show List.drop 1 [97, 98, 255] = [98, 255] from rfl, badl_step (by decide), show szl [98, 255] = 1 by decide, show List.drop 1 [98, 255] = [255] from rfl, badl_zero (by simp) (by decide)]; rfl
  · rw [cntl_step (by simp), show stp [97, 195, 169, 255] = 1 by decide, show List.drop 1 [97, 195, 169, 255] = [195, 169, 255] from rfl, cntl_step (by simp), show stp [195, 169, 255] = 2 by decide, show List.drop 2 [195, 169, 255] = [255] from rfl, cntl_step (by simp), show stp [255] = 1 by decide, show List.drop 1 [255] = ([] : List Nat) from rfl, cntl_nil]

set_option maxHeartbeats 4000000 in
set_option maxRecDepth 100000 in
theorem awake9 (w : World) (hT : Tabs9 w) : Calls Tryd.prog 7 #[] w (Ret9 w (.bool true)) := by
  have HT := Lib.hid hT
  clear hT
  have E : Hid (Below w.heap.size w w) := Below.refl _ _
  have F1 : Hid (enS 233 = ⟨#[195, 169]⟩) := by show _ = _; decide
  have F1e : Hid (enE 233 = 0) := by show _ = _; decide
  have F2 : Hid (enS 55296 = ⟨#[]⟩) := by show _ = _; decide
  have F2e : Hid (enE 55296 = 1) := by show _ = _; decide
  have F3 : Hid (szl (bs9 ⟨#[195, 169, 120]⟩) = 2) := by show _ = _; decide
  have F4 : Hid (szl (bs9 ⟨#[192, 128]⟩) = 0) := by show _ = _; decide
  have F5 : Hid (szl (bs9 ⟨#[]⟩) = 0) := by show _ = _; decide
  have F9 : Hid (szl (bs9 ⟨#[240, 159, 152, 128]⟩) = 4) := by show _ = _; decide
  have F10 : Hid (szl (bs9 ⟨#[237, 160, 128]⟩) = 0) := by show _ = _; decide
  have F6 : Hid ((badl (bs9 ⟨#[97, 195, 169]⟩) == none) = true) := by show _ = _; rw [show bs9 ⟨#[97, 195, 169]⟩ = [97, 195, 169] from rfl, bad_ex.1]; rfl
  have F7 : Hid (io9 (badl (bs9 ⟨#[97, 98, 255]⟩)) = 2) := by show _ = _; rw [show bs9 ⟨#[97, 98, 255]⟩ = [97, 98, 255] from rfl, bad_ex.2.1]; rfl
  have F8 : Hid (io9 (badl (bs9 ⟨#[]⟩)) = -1) := by show _ = _; rw [show bs9 ⟨#[]⟩ = [] from rfl, badl_nil]; rfl
  have F11 : Hid (cntl (bs9 ⟨#[97, 195, 169, 255]⟩) = 3) := by show _ = _; rw [show bs9 ⟨#[97, 195, 169, 255]⟩ = [97, 195, 169, 255] from rfl]; exact bad_ex.2.2
  have a1 : ∀ w', (Op.stringOp .add ⟨#[195, 169]⟩ ⟨#[120]⟩).run Tryd.prog w' = .ok (.string ⟨#[195, 169, 120]⟩) w' := fun w' => add9 rfl (by decide) w'
  have a2 : ∀ w', (Op.stringOp .add ⟨#[97]⟩ ⟨#[195, 169]⟩).run Tryd.prog w' = .ok (.string ⟨#[97, 195, 169]⟩) w' := fun w' => add9 rfl (by decide) w'
  have a3 : ∀ w', (Op.stringOp .add ⟨#[97, 195, 169]⟩ ⟨#[255]⟩).run Tryd.prog w' = .ok (.string ⟨#[97, 195, 169, 255]⟩) w' := fun w' => add9 rfl (by decide) w'
  go_enter Tryd.func7, Tryd.ntmps7
  go_wp2_with fail
  refine (encode_is (HT.out.on E.out) F1.out F1e.out).mono ?_; rintro e w1 ⟨rfl, hb⟩; replace E := Lib.hid (E.out.trans (hb.mono E.out.size)); clear hb
  go_wp2_with fail
  refine (encode_is (HT.out.on E.out) F2.out F2e.out).mono ?_; rintro e w2 ⟨rfl, hb⟩; replace E := Lib.hid (E.out.trans (hb.mono E.out.size)); clear hb
  go_wp2_with fail
  refine (size_is (HT.out.on E.out) F3.out (by decide)).mono ?_; rintro e w3 ⟨rfl, hb⟩; replace E := Lib.hid (E.out.trans (hb.mono E.out.size)); clear hb
  go_wp2_with fail
  refine (size_is (HT.out.on E.out) F4.out (by decide)).mono ?_; rintro e w4 ⟨rfl, hb⟩; replace E := Lib.hid (E.out.trans (hb.mono E.out.size)); clear hb
  go_wp2_with fail
  refine (size_is (HT.out.on E.out) F5.out (by decide)).mono ?_; rintro e w5 ⟨rfl, hb⟩; replace E := Lib.hid (E.out.trans (hb.mono E.out.size)); clear hb
  go_wp2_with fail
  refine (right_is (HT.out.on E.out) F6.out (by decide)).mono ?_; rintro e w6 ⟨rfl, hb⟩; replace E := Lib.hid (E.out.trans (hb.mono E.out.size)); clear hb
  go_wp2_with fail
  refine (bad_is (HT.out.on E.out) F7.out (by decide)).mono ?_; rintro e w7 ⟨rfl, hb⟩; replace E := Lib.hid (E.out.trans (hb.mono E.out.size)); clear hb
  go_wp2_with fail
  refine (bad_is (HT.out.on E.out) F8.out (by decide)).mono ?_; rintro e w8 ⟨rfl, hb⟩; replace E := Lib.hid (E.out.trans (hb.mono E.out.size)); clear hb
  go_wp2_with fail
  refine (count_is (HT.out.on E.out) F11.out (by decide)).mono ?_; rintro e w9 ⟨rfl, hb⟩; replace E := Lib.hid (E.out.trans (hb.mono E.out.size)); clear hb
  go_wp2_with fail
  refine (size_is (HT.out.on E.out) F9.out (by decide)).mono ?_; rintro e w10 ⟨rfl, hb⟩; replace E := Lib.hid (E.out.trans (hb.mono E.out.size)); clear hb
  go_wp2_with fail
  refine (size_is (HT.out.on E.out) F10.out (by decide)).mono ?_; rintro e w11 ⟨rfl, hb⟩; replace E := Lib.hid (E.out.trans (hb.mono E.out.size)); clear hb
  go_wp2_with fail
  go_ret
  exact ⟨rfl, E.out⟩

end Go.Proofs.YtkeiipnclkaeiaaDoor
