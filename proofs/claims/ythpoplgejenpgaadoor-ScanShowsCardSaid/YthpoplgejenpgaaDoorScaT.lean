/-
  The examples of layer 10 (awake) answer true, whatever the memory.
-/
import Derived.Test.YthpoplgejenpgaaDoorScaF
set_option linter.unusedVariables false
set_option linter.unusedSimpArgs false
namespace Go.Proofs.YthpoplgejenpgaaDoor
open Go.RowKit

theorem lns_ex : lns ⟨#[97, 98, 13, 10, 10, 32, 32, 99]⟩ = [[97, 98], [], [32, 32, 99]] := by
  show linl [97, 98, 13, 10, 10, 32, 32, 99] = _
  rw [linl_cons (by decide), show strl (hdl [97, 98, 13, 10, 10, 32, 32, 99]) = [97, 98] by decide, show List.drop ((hdl [97, 98, 13, 10, 10, 32, 32, 99]).length + 1) [97, 98, 13, 10, 10, 32, 32, 99] = [10, 32, 32, 99] by decide]
  rw [linl_cons (by decide), show strl (hdl [10, 32, 32, 99]) = [] by decide, show List.drop ((hdl [10, 32, 32, 99]).length + 1) [10, 32, 32, 99] = [32, 32, 99] by decide]
  rw [linl_cons (by decide), show strl (hdl [32, 32, 99]) = [32, 32, 99] by decide, show List.drop ((hdl [32, 32, 99]).length + 1) [32, 32, 99] = [] by decide, linl_nil]
theorem lns_ex2 : linl [97, 10] = [[97]] := by
  rw [linl_cons (by decide), show strl (hdl [97, 10]) = [97] by decide, show List.drop ((hdl [97, 10]).length + 1) [97, 10] = [] by decide, linl_nil]

theorem count_is {s : ByteArray} {z : Nat} {w : World} (h : (lns s).length = z) (hs : s.size ≤ 1000000) : Calls Tryd.prog 11 #[.string s] w (Ret9 w (.int .i64 (z : Int))) := h ▸ count_any s w hs
theorem indent_is {s : ByteArray} {z : Nat} {w : World} (h : indl (bs9 s) = z) (hs : s.size ≤ 1000000) : Calls Tryd.prog 12 #[.string s] w (Ret9 w (.int .i64 (z : Int))) := h ▸ indent_any s w hs
theorem blank_is {s : ByteArray} {z : Bool} {w : World} (h : decide (Blk (bs9 s)) = z) (hs : s.size ≤ 1000000) : Calls Tryd.prog 13 #[.string s] w (Ret9 w (.bool z)) := h ▸ blank_any s w hs
theorem where_is {s : ByteArray} {n : Int} {p : Nat × Nat} {w : World} (h : whr s n = p) (hs : s.size ≤ 1000000) : Calls Tryd.prog 9 #[.string s, .int .i64 n] w (Ret9 w (.agg #[.int .i64 (p.1 : Int), .int .i64 (p.2 : Int)])) := h ▸ where_any s n w hs
theorem join_got {L : List (List Nat)} {S : ByteArray} {A : Option Addr} {c n : Nat} {w : World} (h : RdL w A c L) (hn : L.length = n) (hS : st9 (joinl L) = S) (hl : L.length ≤ 1000) (hj : (joinl L).length ≤ 1000000) : Calls Tryd.prog 14 #[.slice A n c] w (Ret9 w (.string S)) := by subst hn; exact hS ▸ join_is h hl hj

set_option maxHeartbeats 4000000 in
set_option maxRecDepth 100000 in
theorem awake10 (w : World) : Calls Tryd.prog 4 #[] w (Ret9 w (.bool true)) := by
  have F1 : Hid ((lns ⟨#[97, 98, 13, 10, 10, 32, 32, 99]⟩).length = 3) := by show _ = _; rw [lns_ex]; rfl
  have F2 : Hid ((lns ⟨#[97, 10]⟩).length = 1) := by show (linl [97, 10]).length = _; rw [lns_ex2]; rfl
  have F3 : Hid (indl (bs9 ⟨#[32, 32, 99]⟩) = 2) := by show _ = _; decide
  have F4 : Hid (decide (Blk (bs9 ⟨#[32, 59, 32, 120]⟩)) = true) := by show _ = _; decide
  have F5 : Hid (decide (Blk (bs9 ⟨#[42, 32, 120]⟩)) = true) := by show _ = _; decide
  have F6 : Hid (decide (Blk (bs9 ⟨#[32, 42, 32, 120]⟩)) = false) := by show _ = _; decide
  have F7 : Hid (decide (Blk (bs9 ⟨#[]⟩)) = true) := by show _ = _; decide
  have F8 : Hid (whr ⟨#[97, 10, 98, 99]⟩ 3 = (2, 2)) := by show _ = _; decide
  go_enter Tryd.func4, Tryd.ntmps4
  go_wp2_with fail
  refine (lines_any _ _ (by decide)).mono ?_; rintro e w1 ⟨v, rfl, hown, hb⟩
  rw [lns_ex] at hown
  obtain ⟨A, c, rfl, h⟩ := hown.rd
  have H := Lib.hid h
  have E := Lib.hid hb
  clear hown hb
  obtain ⟨h1, h2, h0 | ⟨b, rfl, h4, h5⟩⟩ := h
  · exact absurd h0 (by simp)
  have h1' : 3 ≤ c := h1
  have c0 : w1.cell? ⟨b, 0, none⟩ = some (.int .i64 1) := h5 0 _ rfl
  have c1 : w1.cell? ⟨b, 1, none⟩ = some (.string ⟨#[97, 98]⟩) := h5 1 _ rfl
  have c2 : w1.cell? ⟨b, 2, none⟩ = some (.int .i64 2) := h5 2 _ rfl
  have c3 : w1.cell? ⟨b, 3, none⟩ = some (.string ⟨#[]⟩) := h5 3 _ rfl
  have c4 : w1.cell? ⟨b, 4, none⟩ = some (.int .i64 3) := h5 4 _ rfl
  have c5 : w1.cell? ⟨b, 5, none⟩ = some (.string ⟨#[32, 32, 99]⟩) := h5 5 _ rfl
  clear h1 h5
  go_wp2_with fail
  refine (count_is F1.out (by decide)).mono ?_; rintro e w2 ⟨rfl, hb⟩; replace E := Lib.hid (E.out.trans (hb.mono E.out.size)); replace H := Lib.hid (H.out.on hb); clear hb c0 c1 c2 c3 c4 c5
  go_wp2_with fail
  refine (count_is F2.out (by decide)).mono ?_; rintro e w3 ⟨rfl, hb⟩; replace E := Lib.hid (E.out.trans (hb.mono E.out.size)); replace H := Lib.hid (H.out.on hb); clear hb
  go_wp2_with fail
  refine (indent_is F3.out (by decide)).mono ?_; rintro e w4 ⟨rfl, hb⟩; replace E := Lib.hid (E.out.trans (hb.mono E.out.size)); replace H := Lib.hid (H.out.on hb); clear hb
  go_wp2_with fail
  refine (blank_is F4.out (by decide)).mono ?_; rintro e w5 ⟨rfl, hb⟩; replace E := Lib.hid (E.out.trans (hb.mono E.out.size)); replace H := Lib.hid (H.out.on hb); clear hb
  go_wp2_with fail
  refine (blank_is F5.out (by decide)).mono ?_; rintro e w6 ⟨rfl, hb⟩; replace E := Lib.hid (E.out.trans (hb.mono E.out.size)); replace H := Lib.hid (H.out.on hb); clear hb
  go_wp2_with fail
  refine (blank_is F6.out (by decide)).mono ?_; rintro e w7 ⟨rfl, hb⟩; replace E := Lib.hid (E.out.trans (hb.mono E.out.size)); replace H := Lib.hid (H.out.on hb); clear hb
  go_wp2_with fail
  refine (blank_is F7.out (by decide)).mono ?_; rintro e w8 ⟨rfl, hb⟩; replace E := Lib.hid (E.out.trans (hb.mono E.out.size)); replace H := Lib.hid (H.out.on hb); clear hb
  go_wp2_with fail
  refine (where_is F8.out (by decide)).mono ?_; rintro e w9 ⟨rfl, hb⟩; replace E := Lib.hid (E.out.trans (hb.mono E.out.size)); replace H := Lib.hid (H.out.on hb); clear hb
  go_wp2_with fail
  refine (join_got (S := ⟨#[97, 98, 10, 10, 32, 32, 99, 10]⟩) H.out rfl rfl (by decide) (by decide)).mono ?_; rintro e w10 ⟨rfl, hb⟩; replace E := Lib.hid (E.out.trans (hb.mono E.out.size)); clear hb
  go_wp2_with fail
  go_ret
  exact ⟨rfl, E.out⟩

end Go.Proofs.YthpoplgejenpgaaDoor
