/-
  UtfSays answers true.
-/
import Derived.Test.YtkeiipnclkaeiaaDoorUtfH
set_option linter.unusedVariables false
set_option linter.unusedSimpArgs false
namespace Go.Proofs.YtkeiipnclkaeiaaDoor
open Go.RowKit

set_option maxHeartbeats 4000000 in
set_option maxRecDepth 100000 in
theorem says9_law (s : ByteArray) (x : Int) (w : World) (hT : Tabs9 w) : Calls Tryd.prog 3 #[.string s, .int .i64 x] w (Ret9 w (.bool true)) := by
  have HT := Lib.hid hT
  clear hT
  have E : Hid (Below w.heap.size w w) := Below.refl _ _
  rcases Nat.lt_or_ge 600 s.size with hb | hb
  · skip
    go_enter Tryd.func3, Tryd.ntmps3
    go_wp2_with fail
    refine (awake9 _ (HT.out.on E.out)).mono ?_; rintro e w1 ⟨rfl, hb⟩; replace E := Lib.hid (E.out.trans (hb.mono E.out.size)); clear hb
    go_wp2_with fail
    go_ret
    exact ⟨rfl, E.out⟩
  · have hs : s.size ≤ 1000000 := by omega
    obtain ⟨t, ht⟩ : ∃ t, enS x = t := ⟨_, rfl⟩
    obtain ⟨k, hk⟩ : ∃ k, enE x = k := ⟨_, rfl⟩
    obtain ⟨z1, h1⟩ : ∃ z, szl (bs9 s) = z := ⟨_, rfl⟩
    obtain ⟨z2, h2⟩ : ∃ z, io9 (badl (bs9 s)) = z := ⟨_, rfl⟩
    obtain ⟨z3, h3⟩ : ∃ z, (badl (bs9 s) == none) = z := ⟨_, rfl⟩
    obtain ⟨z4, h4⟩ : ∃ z, cntl (bs9 s) = z := ⟨_, rfl⟩
    have T0 := Lib.hid ht
    have K0 := Lib.hid hk
    have H1 := Lib.hid h1
    have H2 := Lib.hid h2
    have H3 := Lib.hid h3
    have H4 := Lib.hid h4
    clear ht hk h1 h2 h3 h4
    go_enter Tryd.func3, Tryd.ntmps3
    go_wp2_with fail
    refine (encode_is (HT.out.on E.out) T0.out K0.out).mono ?_; rintro e w1 ⟨rfl, hb⟩; replace E := Lib.hid (E.out.trans (hb.mono E.out.size)); clear hb
    go_wp2_with fail
    refine (refencode_is T0.out K0.out).mono ?_; rintro e w2 ⟨rfl, hb⟩; replace E := Lib.hid (E.out.trans (hb.mono E.out.size)); clear hb
    go_wp2_with fail
    refine (size_is (HT.out.on E.out) H1.out hs).mono ?_; rintro e w3 ⟨rfl, hb⟩; replace E := Lib.hid (E.out.trans (hb.mono E.out.size)); clear hb
    go_wp2_with fail
    refine (refsize_is H1.out hs).mono ?_; rintro e w4 ⟨rfl, hb⟩; replace E := Lib.hid (E.out.trans (hb.mono E.out.size)); clear hb
    go_wp2_with fail
    refine (bad_is (HT.out.on E.out) H2.out hs).mono ?_; rintro e w5 ⟨rfl, hb⟩; replace E := Lib.hid (E.out.trans (hb.mono E.out.size)); clear hb
    go_wp2_with fail
    refine (refbad_is H2.out hs).mono ?_; rintro e w6 ⟨rfl, hb⟩; replace E := Lib.hid (E.out.trans (hb.mono E.out.size)); clear hb
    go_wp2_with fail
    refine (right_is (HT.out.on E.out) H3.out hs).mono ?_; rintro e w7 ⟨rfl, hb⟩; replace E := Lib.hid (E.out.trans (hb.mono E.out.size)); clear hb
    go_wp2_with fail
    refine (refright_is H3.out hs).mono ?_; rintro e w8 ⟨rfl, hb⟩; replace E := Lib.hid (E.out.trans (hb.mono E.out.size)); clear hb
    go_wp2_with fail
    refine (count_is (HT.out.on E.out) H4.out hs).mono ?_; rintro e w9 ⟨rfl, hb⟩; replace E := Lib.hid (E.out.trans (hb.mono E.out.size)); clear hb
    go_wp2_with fail
    refine (refcount_is H4.out hs).mono ?_; rintro e w10 ⟨rfl, hb⟩; replace E := Lib.hid (E.out.trans (hb.mono E.out.size)); clear hb
    go_wp2_with fail
    refine (awake9 _ (HT.out.on E.out)).mono ?_; rintro e w11 ⟨rfl, hb⟩; replace E := Lib.hid (E.out.trans (hb.mono E.out.size)); clear hb
    go_wp2_with fail
    go_ret
    exact ⟨rfl, E.out⟩

end Go.Proofs.YtkeiipnclkaeiaaDoor
