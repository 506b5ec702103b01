/-
  Contracts of layer 10, the tenth part: Show.
-/
import Derived.Test.YthpoplgejenpgaaDoorScaI
import Derived.Lib.LaidTab
import Derived.Lib.Repeat
set_option linter.unusedVariables false
set_option linter.unusedSimpArgs false
namespace Go.Proofs.YthpoplgejenpgaaDoor
open Go.RowKit

/-- The table of tens holds what its initialiser lays. -/
structure Tab10 (w : World) : Prop where
  pow : Lib.TabIs Tryd.prog w "internal/strconv.uint64pow10" .u64 Lib.pow10Tab
theorem Tab10.on {w w' : World} (h : Tab10 w) (hb : Below w.heap.size w w') : Tab10 w' := ⟨Lib.tabBelow_of_tabIs h.pow w' hb⟩
theorem itoa_is {n : Int} {x : Nat} (w : World) (hT : Tab10 w) (h : n = (x : Int)) (hx : x ≤ 1000000) : Calls Tryd.prog 15 #[.int .i64 n] w (Ret9 w (.string (st9 (num10 x)))) := by
  subst h
  refine (Tryd.strconv_Itoa (x : Int) (by omega) (by omega) w hT.pow).mono fun e w' h => ?_
  obtain ⟨h1, k, os, rfl⟩ := h
  rw [Lib.itoa_nonneg, ← num10_st] at h1
  exact ⟨h1, Lib.below_grow _ _ (Nat.le_refl _) _ _⟩
theorem blanks_lt (k : Nat) : ∀ c ∈ List.replicate k 32, c < 256 := fun c hc => by rw [(List.mem_replicate.1 hc).2]; omega
theorem blank_bytes : ∀ k, (Lib.repeatL [32] k).map UInt8.toNat = List.replicate k 32
  | 0 => rfl
  | k + 1 => by rw [Lib.repeatL, List.map_append, blank_bytes k, List.replicate_succ]; rfl
theorem repeat10 (k : Nat) (w : World) (hk : k ≤ 1000000) : Calls Tryd.prog 19 #[.string ⟨#[32]⟩, .int .i64 (k : Int)] w (Ret9 w (.string (st9 (List.replicate k 32)))) := by
  have C := Tryd.strings_Repeat ⟨#[32]⟩ k w (by omega) (by show 1 * k ≤ _; omega)
  have e : (⟨(Lib.repeatL [32] k).toArray⟩ : ByteArray) = st9 (List.replicate k 32) := bs9_inj (by rw [bs9_st9 (blanks_lt k)]; exact blank_bytes k)
  rw [← e]
  exact C

/-- What the line of that number says. -/
def wd10 (s : ByteArray) (L : Int) : List Nat := if L < 1 then [] else wrd (bs9 s) (bgnl (L - 1).toNat (bs9 s))
theorem wrd_le (l : List Nat) (o : Option Nat) : (wrd l o).length ≤ l.length := by
  cases o with
  | none => exact Nat.zero_le _
  | some f =>
    have h1 := strl_le (hdl (l.drop f))
    have h2 := hdl_le (l.drop f)
    rw [List.length_drop] at h2
    show (strl (hdl (l.drop f))).length ≤ _
    omega
theorem wd10_le (s : ByteArray) (L : Int) : (wd10 s L).length ≤ s.size := by
  unfold wd10; split
  · exact Nat.zero_le _
  · rw [← bs9_len]; exact wrd_le _ _
/-- How many bytes are ahead of the column. -/
def q10 (n : Nat) (C : Int) : Nat := min (max C 1 - 1).toNat n
/-- A place shown: the number and what stands behind it; all of it. -/
def hd10 (L : Int) : List Nat := num10 L.toNat ++ [58, 32]
def shw10 (s : ByteArray) (L C : Int) : List Nat := (((hd10 L ++ wd10 s L) ++ [10]) ++ List.replicate ((hd10 L).length + q10 (wd10 s L).length C) 32) ++ [94, 10]
theorem hd10_len {L : Int} (h : L ≤ 1000000) : (hd10 L).length ≤ 10 := by
  have := num10_len8 (x := L.toNat) (by omega)
  unfold hd10; rw [List.length_append]; simp; omega
theorem bg10_word {s : ByteArray} {L : Int} : (bg10 s L = -1 → wd10 s L = []) ∧ (∀ f : Nat, bg10 s L = f → wd10 s L = strl (hdl ((bs9 s).drop f))) := by
  unfold bg10 wd10
  by_cases h : L < 1
  · rw [if_pos h, if_pos h]
    exact ⟨fun _ => rfl, fun f e => by omega⟩
  · rw [if_neg h, if_neg h]
    cases hb : bgnl (L - 1).toNat (bs9 s) with
    | none => exact ⟨fun _ => rfl, fun f e => by have : (-1 : Int) = f := e; omega⟩
    | some g =>
      refine ⟨fun e => ?_, fun f e => ?_⟩
      · have : (g : Int) = -1 := e; omega
      · have : (g : Int) = f := e
        obtain rfl : g = f := by omega
        rfl

set_option maxHeartbeats 4000000 in
set_option maxRecDepth 100000 in
theorem show_any (s : ByteArray) (L C : Int) (w : World) (hT : Tab10 w) (hs : s.size ≤ 100000) (hL : L ≤ 1000000) (hC : C ≤ 1000000) : Calls Tryd.prog 5 #[.string s, .agg #[.int .i64 L, .int .i64 C]] w (Ret9 w (.string (st9 (shw10 s L C)))) := by
  have HT := Lib.hid hT
  have hs1 : s.size ≤ 1000000 := by omega
  have hhl := hd10_len hL
  have hwl := wd10_le s L
  obtain ⟨hw1, hw2⟩ := bg10_word (s := s) (L := L)
  obtain ⟨f, hf⟩ : ∃ f, bg10 s L = f := ⟨_, rfl⟩
  have hfl := bg10_le s L
  rw [hf] at hfl hw1 hw2
  obtain ⟨x, hx⟩ : ∃ x, L.toNat = x := ⟨_, rfl⟩
  have em1 : max L 0 = (x : Int) := by omega
  have hxb : x ≤ 1000000 := by omega
  obtain ⟨W, hW⟩ : ∃ W, wd10 s L = W := ⟨_, rfl⟩
  rw [hW] at hw1 hw2 hwl
  obtain ⟨q, hq⟩ : ∃ q, q10 W.length C = q := ⟨_, rfl⟩
  have hqW : q ≤ W.length := by rw [← hq]; unfold q10; exact Nat.min_le_right _ _
  obtain ⟨Y, hY⟩ : ∃ Y, st9 W = Y := ⟨_, rfl⟩
  have hYs : Y.size = W.length := by rw [← hY, st9_size]
  have em2 : min (max C 1 - 1) (Y.size : Int) = (q : Int) := by rw [hYs, ← hq]; unfold q10; omega
  have hmx : max C 1 ≤ 1000000 := by omega
  have hmx2 : 1 ≤ max C 1 := by omega
  obtain ⟨H, hH⟩ : ∃ H, hd10 L = H := ⟨_, rfl⟩
  rw [hH] at hhl
  obtain ⟨n, hn⟩ : ∃ n, H.length + q = n := ⟨_, rfl⟩
  have hHn : H = num10 x ++ [58, 32] := by rw [← hH]; unfold hd10; rw [hx]
  have hnl := num10_len8 hxb
  have HR : Hid (shw10 s L C = (((H ++ W) ++ [10]) ++ List.replicate n 32) ++ [94, 10]) := by show _ = _; unfold shw10; rw [hH, hW, hq, hn]
  rw [HR.out]
  have HI : Hid (∀ w', Below w.heap.size w w' → Calls Tryd.prog 15 #[.int .i64 (x : Int)] w' (Ret9 w' (.string (st9 (num10 x))))) := fun w' hb => itoa_is w' (HT.out.on hb) rfl hxb
  have a1 : ∀ w', (Op.stringOp .add (st9 (num10 x)) ⟨#[58, 32]⟩).run Tryd.prog w' = .ok (.string (st9 H)) w' := fun w' => by rw [hHn]; exact addst (b := [58, 32]) (by simp; omega) w'
  have a2 : ∀ w', (Op.stringOp .add (st9 H) (st9 W)).run Tryd.prog w' = .ok (.string (st9 (H ++ W))) w' := fun w' => addst (by omega) w'
  have a3 : ∀ w', (Op.stringOp .add (st9 (H ++ W)) ⟨#[10]⟩).run Tryd.prog w' = .ok (.string (st9 ((H ++ W) ++ [10]))) w' := fun w' => addst (b := [10]) (by simp; omega) w'
  have a4 : ∀ w', (Op.stringOp .add (st9 ((H ++ W) ++ [10])) (st9 (List.replicate n 32))).run Tryd.prog w' = .ok (.string (st9 (((H ++ W) ++ [10]) ++ List.replicate n 32))) w' := fun w' => addst (by simp; omega) w'
  have a5 : ∀ w', (Op.stringOp .add (st9 (((H ++ W) ++ [10]) ++ List.replicate n 32)) ⟨#[94, 10]⟩).run Tryd.prog w' = .ok (.string (st9 ((((H ++ W) ++ [10]) ++ List.replicate n 32) ++ [94, 10]))) w' := fun w' => addst (b := [94, 10]) (by simp; omega) w'
  have HP : Hid (∀ w', Calls Tryd.prog 19 #[.string ⟨#[32]⟩, .int .i64 (n : Int)] w' (Ret9 w' (.string (st9 (List.replicate n 32))))) := fun w' => repeat10 n w' (by omega)
  have hHs : (st9 H).size = H.length := st9_size H
  obtain ⟨S0, hS0⟩ : ∃ S, st9 (num10 x) = S := ⟨_, rfl⟩
  obtain ⟨S1, hS1⟩ : ∃ S, st9 H = S := ⟨_, rfl⟩
  obtain ⟨S2, hS2⟩ : ∃ S, st9 (H ++ W) = S := ⟨_, rfl⟩
  obtain ⟨S3, hS3⟩ : ∃ S, st9 ((H ++ W) ++ [10]) = S := ⟨_, rfl⟩
  obtain ⟨S4, hS4⟩ : ∃ S, st9 (List.replicate n 32) = S := ⟨_, rfl⟩
  obtain ⟨S5, hS5⟩ : ∃ S, st9 (((H ++ W) ++ [10]) ++ List.replicate n 32) = S := ⟨_, rfl⟩
  obtain ⟨S6, hS6⟩ : ∃ S, st9 ((((H ++ W) ++ [10]) ++ List.replicate n 32) ++ [94, 10]) = S := ⟨_, rfl⟩
  rw [hS0] at HI a1
  rw [hS1] at a1 a2 hHs
  rw [hY, hS2] at a2
  rw [hS2, hS3] at a3
  rw [hS3, hS4, hS5] at a4
  rw [hS5, hS6] at a5
  rw [hS4] at HP
  rw [hS6]
  have en : (S1.size : Int) + (q : Int) = (n : Int) := by omega
  have hS1b : S1.size ≤ 10 := by omega
  have hYb : Y.size ≤ 100000 := by omega
  have s1 : Hid (∀ W' : World, Calls Tryd.prog 16 #[.string s, .int .i64 L] W' (Ret9 W' (.int .i64 f))) := fun W' => by rw [← hf]; exact begin_any s L W' hs1 hL
  have hqn : q ≤ 100000 := by omega
  have HF1 : Hid (f < 0 → Y = ⟨#[]⟩) := fun h => by rw [← hY, hw1 (by omega)]; rfl
  have HF2 : Hid (∀ g : Nat, f = g → strl (hdl ((bs9 s).drop g)) = bs9 Y) := fun g e => by
    have h1 := hw2 g e
    rw [← h1, ← hY, bs9_st9]
    intro c hc
    rw [h1] at hc
    exact line_lt s g c hc
  obtain ⟨f1, f2⟩ := hfl
  clear hT hw1 hw2 hf hx hW hq hqW hY hYs hH hHn HR hS0 hS1 hS2 hS3 hS4 hS5 hS6 hHs hn hnl hhl hwl
  by_cases hf0 : f < 0
  · have d0 : decide ((0 : Int) ≤ f) = false := decide_eq_false (by omega)
    have hYn := HF1.out hf0
    subst hYn
    have em3 : min (max C 1 - 1) (0 : Int) = (q : Int) := em2
    clear hf0 HF2 em2
    go_enter Tryd.func5, Tryd.ntmps5
    go_wp2_with fail
    have X : Hid (Bx2 (w.alloc (.cells #[.int .i64 L, .int .i64 C] 23)) w.heap.size (.int .i64 L) (.int .i64 C)) := Bx2.newAt _ _ _ _ rfl
    have E : Hid (Below w.heap.size w (w.alloc (.cells #[.int .i64 L, .int .i64 C] 23))) := (Below.refl _ _).alloc (Nat.le_refl _) _
    generalize World.alloc w _ = W0 at X E ⊢
    obtain ⟨p0, p1, pf0, pf1, plt⟩ := X.out
    refine (HI.out _ E.out).mono ?_; rintro e x0 ⟨rfl, hb⟩
    clear p0 p1 pf0 pf1 plt
    replace X := Lib.hid (X.out.on hb); replace E := Lib.hid (E.out.trans (hb.mono E.out.size)); clear hb
    obtain ⟨p0, p1, pf0, pf1, plt⟩ := X.out
    go_wp2_with fail
    refine (s1.out _).mono ?_; rintro e x1 ⟨rfl, hb⟩
    clear p0 p1 pf0 pf1 plt
    replace X := Lib.hid (X.out.on hb); replace E := Lib.hid (E.out.trans (hb.mono E.out.size)); clear hb
    obtain ⟨p0, p1, pf0, pf1, plt⟩ := X.out
    go_wp2_with fail
    refine (HP.out _).mono ?_; rintro e x2 ⟨rfl, hb⟩
    clear p0 p1 pf0 pf1 plt
    replace X := Lib.hid (X.out.on hb); replace E := Lib.hid (E.out.trans (hb.mono E.out.size)); clear hb
    obtain ⟨p0, p1, pf0, pf1, plt⟩ := X.out
    go_wp2_with fail
    go_ret
    exact ⟨rfl, E.out⟩
  · obtain ⟨g, rfl⟩ : ∃ g : Nat, f = g := ⟨f.toNat, by omega⟩
    have d0 : decide ((0 : Int) ≤ (g : Int)) = true := decide_eq_true (by omega)
    have hg : g ≤ s.size := by omega
    have hkl := hd_le hg
    obtain ⟨k, hk⟩ : ∃ k, g + (hdl ((bs9 s).drop g)).length = k := ⟨_, rfl⟩
    have HK := Lib.hid hk
    rw [hk] at hkl
    have hgk : g ≤ k := by omega
    have HTB : Hid (strl (((bs9 s).drop g).take (k - g)) = bs9 Y) := by
      show _ = _
      rw [← HF2.out g rfl, show k - g = (hdl ((bs9 s).drop g)).length by omega, ← hdl_take]
    have HEN : Hid (∀ W', Calls Tryd.prog 18 #[.string s, .int .i64 (g : Int)] W' (Ret9 W' (.int .i64 (k : Int)))) := fun W' => by have := end_any s g W' hg hs1; rw [hk] at this; exact this
    clear hf0 hk HF1 HF2
    go_enter Tryd.func5, Tryd.ntmps5
    go_wp2_with fail
    have X : Hid (Bx2 (w.alloc (.cells #[.int .i64 L, .int .i64 C] 23)) w.heap.size (.int .i64 L) (.int .i64 C)) := Bx2.newAt _ _ _ _ rfl
    have E : Hid (Below w.heap.size w (w.alloc (.cells #[.int .i64 L, .int .i64 C] 23))) := (Below.refl _ _).alloc (Nat.le_refl _) _
    generalize World.alloc w _ = W0 at X E ⊢
    obtain ⟨p0, p1, pf0, pf1, plt⟩ := X.out
    refine (HI.out _ E.out).mono ?_; rintro e x0 ⟨rfl, hb⟩
    clear p0 p1 pf0 pf1 plt
    replace X := Lib.hid (X.out.on hb); replace E := Lib.hid (E.out.trans (hb.mono E.out.size)); clear hb
    obtain ⟨p0, p1, pf0, pf1, plt⟩ := X.out
    go_wp2_with fail
    refine (s1.out _).mono ?_; rintro e x1 ⟨rfl, hb⟩
    clear p0 p1 pf0 pf1 plt
    replace X := Lib.hid (X.out.on hb); replace E := Lib.hid (E.out.trans (hb.mono E.out.size)); clear hb
    obtain ⟨p0, p1, pf0, pf1, plt⟩ := X.out
    go_wp2_with fail
    refine (HEN.out _).mono ?_; rintro e x2 ⟨rfl, hb⟩
    clear p0 p1 pf0 pf1 plt
    replace X := Lib.hid (X.out.on hb); replace E := Lib.hid (E.out.trans (hb.mono E.out.size)); clear hb
    obtain ⟨p0, p1, pf0, pf1, plt⟩ := X.out
    go_wp2_with fail
    refine (told_is hgk hkl HTB.out hs1).mono ?_; rintro e x3 ⟨rfl, hb⟩
    clear p0 p1 pf0 pf1 plt
    replace X := Lib.hid (X.out.on hb); replace E := Lib.hid (E.out.trans (hb.mono E.out.size)); clear hb
    obtain ⟨p0, p1, pf0, pf1, plt⟩ := X.out
    go_wp2_with fail
    refine (HP.out _).mono ?_; rintro e x4 ⟨rfl, hb⟩
    clear p0 p1 pf0 pf1 plt
    replace X := Lib.hid (X.out.on hb); replace E := Lib.hid (E.out.trans (hb.mono E.out.size)); clear hb
    obtain ⟨p0, p1, pf0, pf1, plt⟩ := X.out
    go_wp2_with fail
    go_ret
    exact ⟨rfl, E.out⟩

end Go.Proofs.YthpoplgejenpgaaDoor
