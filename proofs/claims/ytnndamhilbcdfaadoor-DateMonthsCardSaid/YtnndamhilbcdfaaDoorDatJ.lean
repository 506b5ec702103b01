/-
  Contracts of layer 8, the tenth part: texts: padded, Text, and the document's two and Text.
-/
import Derived.Test.YtnndamhilbcdfaaDoorDatI
import Derived.Lib.ItoaLen
import Derived.Lib.Repeat
set_option linter.unusedVariables false
set_option linter.unusedSimpArgs false
set_option linter.unusedVariables false
set_option linter.unusedSimpArgs false
set_option linter.unusedVariables false
set_option linter.unusedSimpArgs false
namespace Go.Proofs.YtnndamhilbcdfaaDoor
open Go.RowKit

/-- A digit's sign; numbers in two and four digits; a text of these bytes. -/
def dg8 (k : Nat) : UInt8 := UInt8.ofNat (48 + k)
def two8 (n : Nat) : List UInt8 := [dg8 (n / 10 % 10), dg8 (n % 10)]
def four8 (n : Nat) : List UInt8 := [dg8 (n / 1000 % 10), dg8 (n / 100 % 10), dg8 (n / 10 % 10), dg8 (n % 10)]
def st8 (l : List UInt8) : ByteArray := ⟨l.toArray⟩
def txt8 (y m d : Nat) : ByteArray := st8 (four8 y ++ (45 :: (two8 m ++ (45 :: two8 d))))
theorem st8_size (l : List UInt8) : (st8 l).size = l.length := rfl
theorem st8_append (x y : List UInt8) : st8 x ++ st8 y = st8 (x ++ y) := by
  unfold st8; rw [ByteArray.mk_append_mk]; try simp
theorem st8_add {x y z : List UInt8} (hz : x ++ y = z) (h : x.length + y.length ≤ 1000) (w : World) : (Op.stringOp .add (st8 x) (st8 y)).run Tryd.prog w = .ok (.string (st8 z)) w := by
  subst hz
  rw [run_string_add_sum w _ _ (by rw [st8_size, st8_size]; omega), st8_append]
theorem dec_len {n : Nat} (k : Nat) (h : n < 10 ^ (k + 1)) : (Lib.decDigits n).length ≤ k + 1 := by
  induction k generalizing n with
  | zero => rw [Lib.decDigits, dif_pos (by simpa using h)]; simp
  | succ k ih =>
    by_cases h1 : n < 10
    · rw [Lib.decDigits, dif_pos h1]; simp
    · rw [Lib.decDigits, dif_neg h1, List.length_append]
      have := ih (n := n / 10) (by rw [Nat.pow_succ] at h; omega)
      simp; omega
theorem pad_two {n : Nat} (h : n < 100) : Lib.repeatL [48] (2 - (Lib.decDigits n).length) ++ Lib.decDigits n = two8 n := by
  by_cases h1 : n < 10
  · rw [Lib.decDigits_one h1]
    have e1 : n / 10 % 10 = 0 := by omega
    have e2 : n % 10 = n := by omega
    unfold two8; rw [e1, e2]; rfl
  · rw [Lib.decDigits_two h1 h]
    have e1 : n / 10 % 10 = n / 10 := by omega
    unfold two8; rw [e1]; rfl
theorem dec_step {n : Nat} (h : ¬ n < 10) : Lib.decDigits n = Lib.decDigits (n / 10) ++ [dg8 (n % 10)] := by rw [Lib.decDigits, dif_neg h]; rfl
theorem pad_four {n : Nat} (h : n < 10000) : Lib.repeatL [48] (4 - (Lib.decDigits n).length) ++ Lib.decDigits n = four8 n := by
  unfold four8
  by_cases h1 : n < 10
  · rw [Lib.decDigits_one h1]
    rw [show n / 1000 % 10 = 0 by omega, show n / 100 % 10 = 0 by omega, show n / 10 % 10 = 0 by omega, show n % 10 = n by omega]; rfl
  · by_cases h2 : n < 100
    · rw [Lib.decDigits_two h1 h2]
      rw [show n / 1000 % 10 = 0 by omega, show n / 100 % 10 = 0 by omega, show n / 10 % 10 = n / 10 by omega]; rfl
    · by_cases h3 : n < 1000
      · rw [dec_step h1, Lib.decDigits_two (i := n / 10) (by omega) (by omega)]
        rw [show n / 1000 % 10 = 0 by omega, show n / 100 % 10 = n / 10 / 10 by omega]; rfl
      · rw [dec_step h1, dec_step (n := n / 10) (by omega), Lib.decDigits_two (i := n / 10 / 10) (by omega) (by omega)]
        rw [show n / 1000 % 10 = n / 10 / 10 / 10 by omega, show n / 100 % 10 = n / 10 / 10 % 10 by omega]; rfl

theorem itoa8 (n : Nat) (w : World) (hT : Tabs w) (hn : n < 10000) : Calls Tryd.prog 50 #[.int .i64 (n : Int)] w (Ret8 w (.string (st8 (Lib.decDigits n)))) := by
  refine (Tryd.strconv_Itoa (n : Int) (by omega) (by omega) w hT.pow).mono fun e w' h => ?_
  obtain ⟨h1, k, os, rfl⟩ := h
  rw [Lib.itoa_nonneg] at h1
  exact ⟨h1, Lib.below_grow _ _ (Nat.le_refl _) _ _⟩
theorem repeat8 (k : Nat) (w : World) (hk : k ≤ 100) : Calls Tryd.prog 51 #[.string ⟨#[48]⟩, .int .i64 (k : Int)] w (Ret8 w (.string (st8 (Lib.repeatL [48] k)))) :=
  Tryd.strings_Repeat ⟨#[48]⟩ k w (by omega) (by show 1 * k ≤ _; omega)
theorem max8 {P : Program} {s : Nat} (ts : Array TypeId) (ty : TypeId) (W : World) : (Builtin.max_ ts ty #[.int .i64 (s : Int), .int .i64 0]).run P W = .ok (.int .i64 (s : Int)) W := by
  rw [run_max_int2]
  have e : (if (0 : Int) > (s : Int) then (0 : Int) else (s : Int)) = (s : Int) := by split <;> omega
  rw [e]

set_option maxHeartbeats 2000000 in
set_option maxRecDepth 100000 in
theorem padded_is {n k : Nat} {T : List UInt8} {w : World} (hT : Tabs w) (hn : n < 10000) (hk : k ≤ 4) (hl : (Lib.decDigits n).length ≤ k) (h : Lib.repeatL [48] (k - (Lib.decDigits n).length) ++ Lib.decDigits n = T) :
    Calls Tryd.prog 46 #[.int .i64 (n : Int), .int .i64 (k : Int)] w (Ret8 w (.string (st8 T))) := by
  obtain ⟨S, hS⟩ : ∃ S, st8 (Lib.decDigits n) = S := ⟨_, rfl⟩
  obtain ⟨r, hr⟩ : ∃ r, k - (Lib.decDigits n).length = r := ⟨_, rfl⟩
  have hs : S.size = (Lib.decDigits n).length := by rw [← hS]; rfl
  have em : (k : Int) - (S.size : Int) = (r : Int) := by omega
  have sb : S.size ≤ 4 := by omega
  have ha : ∀ w', (Op.stringOp .add (st8 (Lib.repeatL [48] r)) S).run Tryd.prog w' = .ok (.string (st8 T)) w' := fun w' => by
    rw [← hS]; exact st8_add (by rw [← hr]; exact h) (by rw [Lib.repeatL_length]; simp; omega) w'
  obtain ⟨R, hR⟩ : ∃ R, st8 (Lib.repeatL [48] r) = R := ⟨_, rfl⟩
  rw [hR] at ha
  have HC : Hid (∀ w', Calls Tryd.prog 51 #[.string ⟨#[48]⟩, .int .i64 (r : Int)] w' (Ret8 w' (.string R))) := fun w' => by rw [← hR]; exact repeat8 r w' (by omega)
  have HI : Hid (Calls Tryd.prog 50 #[.int .i64 (n : Int)] w (Ret8 w (.string S))) := by rw [← hS]; exact itoa8 n w hT hn
  have hmx := max8 (P := Tryd.prog) (s := r)
  clear hS hr hs h hl hR hT
  go_enter Tryd.func46, Tryd.ntmps46
  go_wp2_with fail
  refine HI.out.mono ?_; rintro e w1 ⟨rfl, hb1⟩
  go_wp2_with fail
  refine (HC.out _).mono ?_; rintro e w2 ⟨rfl, hb2⟩
  go_wp2_with fail
  go_ret
  exact ⟨rfl, hb1.trans (hb2.mono hb1.size)⟩

set_option maxHeartbeats 4000000 in
set_option maxRecDepth 100000 in
theorem text_not (y m d : Int) (hr : ok8 y m d = false)  (w : World) (hT : Tabs w) : Calls Tryd.prog 25 #[.agg #[.int .i64 y, .int .i64 m, .int .i64 d]] w (Ret8 w (.string ⟨#[]⟩)) := by
  have HT := Lib.hid hT
  clear hT
  have HR := Lib.hid hr
  clear hr
  go_enter Tryd.func25, Tryd.ntmps25
  go_wp2_with fail
  generalize hW : World.alloc w _ = W0
  have E0 : S8 w W0 [(w.heap.size, .int .i64 y, .int .i64 m, .int .i64 d)] := by rw [← hW]; exact ((S8.start w HT.out).lay rfl)
  have E := Lib.hid E0
  clear hW E0
  obtain ⟨p0, p1, p2, pf0, pf1, pf2, plt⟩ := (S8.at_ (x0 := .int .i64 y) (x1 := .int .i64 m) (x2 := .int .i64 d) (g := w.heap.size) E (by simp))
  go_wp2_with fail
  refine (right_is E.out.tab HR.out).mono ?_; rintro e w1 ⟨rfl, hb⟩; replace E := Lib.hid (S8.step E.out hb); clear hb
  clear p0 p1 p2 pf0 pf1 pf2 plt
  go_wp2_with fail
  go_ret
  exact ⟨rfl, E.out.bel⟩

set_option maxHeartbeats 4000000 in
set_option maxRecDepth 100000 in
theorem reftext_not (y m d : Int) (hr : ok8 y m d = false)  (w : World) (hT : Tabs w) : Calls Tryd.prog 26 #[.agg #[.int .i64 y, .int .i64 m, .int .i64 d]] w (Ret8 w (.string ⟨#[]⟩)) := by
  have HT := Lib.hid hT
  clear hT
  have HR := Lib.hid hr
  clear hr
  go_enter Tryd.func26, Tryd.ntmps26
  go_wp2_with fail
  generalize hW : World.alloc w _ = W0
  have E0 : S8 w W0 [(w.heap.size, .int .i64 y, .int .i64 m, .int .i64 d)] := by rw [← hW]; exact ((S8.start w HT.out).lay rfl)
  have E := Lib.hid E0
  clear hW E0
  obtain ⟨p0, p1, p2, pf0, pf1, pf2, plt⟩ := (S8.at_ (x0 := .int .i64 y) (x1 := .int .i64 m) (x2 := .int .i64 d) (g := w.heap.size) E (by simp))
  go_wp2_with fail
  refine (refright_is E.out.tab HR.out).mono ?_; rintro e w1 ⟨rfl, hb⟩; replace E := Lib.hid (S8.step E.out hb); clear hb
  clear p0 p1 p2 pf0 pf1 pf2 plt
  go_wp2_with fail
  go_ret
  exact ⟨rfl, E.out.bel⟩

set_option maxHeartbeats 4000000 in
set_option maxRecDepth 100000 in
theorem text_yes (y m d : Nat) (hr : ok8 y m d = true)  (w : World) (hT : Tabs w) : Calls Tryd.prog 25 #[.agg #[.int .i64 ((y : Int)), .int .i64 ((m : Int)), .int .i64 ((d : Int))]] w (Ret8 w (.string (txt8 y m d))) := by
  have HT := Lib.hid hT
  clear hT
  obtain ⟨h1, h2, h3, h4, h5, h6⟩ := ok8_iff.1 hr
  have hl := len8_bd y m
  have HR := Lib.hid hr
  have HYB : Hid (y < 10000) := by show _ < _; omega
  have HMB : Hid (m < 100) := by show _ < _; omega
  have HDB : Hid (d < 100) := by show _ < _; omega
  obtain ⟨P1, hP1⟩ : ∃ S, st8 (four8 y) = S := ⟨_, rfl⟩
  obtain ⟨P2, hP2⟩ : ∃ S, st8 (two8 m) = S := ⟨_, rfl⟩
  obtain ⟨P3, hP3⟩ : ∃ S, st8 (two8 d) = S := ⟨_, rfl⟩
  obtain ⟨S1, hS1⟩ : ∃ S, st8 (four8 y ++ [45]) = S := ⟨_, rfl⟩
  obtain ⟨S2, hS2⟩ : ∃ S, st8 (four8 y ++ [45] ++ two8 m) = S := ⟨_, rfl⟩
  obtain ⟨S3, hS3⟩ : ∃ S, st8 (four8 y ++ [45] ++ two8 m ++ [45]) = S := ⟨_, rfl⟩
  obtain ⟨S4, hS4⟩ : ∃ S, st8 (four8 y ++ (45 :: (two8 m ++ (45 :: two8 d)))) = S := ⟨_, rfl⟩
  have ha1 : ∀ w', (Op.stringOp .add P1 ⟨#[45]⟩).run Tryd.prog w' = .ok (.string S1) w' := fun w' => by
    rw [← hP1, ← hS1]; exact st8_add (x := four8 y) (y := [45]) (by simp [two8, four8]) (by simp [four8, two8]) w'
  have ha2 : ∀ w', (Op.stringOp .add S1 P2).run Tryd.prog w' = .ok (.string S2) w' := fun w' => by
    rw [← hS1, ← hP2, ← hS2]; exact st8_add (by simp [two8, four8]) (by simp [four8, two8]) w'
  have ha3 : ∀ w', (Op.stringOp .add S2 ⟨#[45]⟩).run Tryd.prog w' = .ok (.string S3) w' := fun w' => by
    rw [← hS2, ← hS3]; exact st8_add (x := four8 y ++ [45] ++ two8 m) (y := [45]) (by simp [two8, four8]) (by simp [four8, two8]) w'
  have ha4 : ∀ w', (Op.stringOp .add S3 P3).run Tryd.prog w' = .ok (.string S4) w' := fun w' => by
    rw [← hS3, ← hP3, ← hS4]; exact st8_add (by simp [two8, four8]) (by simp [four8, two8]) w'
  have C1 : Hid (∀ w', Tabs w' → Calls Tryd.prog 46 #[.int .i64 (y : Int), .int .i64 4] w' (Ret8 w' (.string P1))) := fun w' h => by rw [← hP1]; exact padded_is (k := 4) h HYB.out (by omega) (dec_len 3 HYB.out) (pad_four HYB.out)
  have C2 : Hid (∀ w', Tabs w' → Calls Tryd.prog 46 #[.int .i64 (m : Int), .int .i64 2] w' (Ret8 w' (.string P2))) := fun w' h => by rw [← hP2]; exact padded_is (k := 2) h (by have := HMB.out; omega) (by omega) (dec_len 1 HMB.out) (pad_two HMB.out)
  have C3 : Hid (∀ w', Tabs w' → Calls Tryd.prog 46 #[.int .i64 (d : Int), .int .i64 2] w' (Ret8 w' (.string P3))) := fun w' h => by rw [← hP3]; exact padded_is (k := 2) h (by have := HDB.out; omega) (by omega) (dec_len 1 HDB.out) (pad_two HDB.out)
  have HS : Hid (S4 = txt8 y m d) := hS4.symm
  clear hr h1 h2 h3 h4 h5 h6 hl hP1 hP2 hP3 hS1 hS2 hS3 hS4
  go_enter Tryd.func25, Tryd.ntmps25
  go_wp2_with fail
  generalize hW : World.alloc w _ = W0
  have E0 : S8 w W0 [(w.heap.size, .int .i64 ((y : Int)), .int .i64 ((m : Int)), .int .i64 ((d : Int)))] := by rw [← hW]; exact ((S8.start w HT.out).lay rfl)
  have E := Lib.hid E0
  clear hW E0
  obtain ⟨p0, p1, p2, pf0, pf1, pf2, plt⟩ := (S8.at_ (x0 := .int .i64 ((y : Int))) (x1 := .int .i64 ((m : Int))) (x2 := .int .i64 ((d : Int))) (g := w.heap.size) E (by simp))
  go_wp2_with fail
  refine (right_is E.out.tab HR.out).mono ?_; rintro e w1 ⟨rfl, hb⟩; replace E := Lib.hid (S8.step E.out hb); clear hb
  clear p0 p1 p2 pf0 pf1 pf2 plt
  obtain ⟨p0, p1, p2, pf0, pf1, pf2, plt⟩ := (S8.at_ (x0 := .int .i64 ((y : Int))) (x1 := .int .i64 ((m : Int))) (x2 := .int .i64 ((d : Int))) (g := w.heap.size) E (by simp))
  go_wp2_with fail
  clear p0 p1 p2 pf0 pf1 pf2 plt
  replace E := Lib.hid (S8.drew E.out)
  go_region_held3 (fun v => v.cell? ⟨w.heap.size, 0, none⟩ = some (.int .i64 ((y : Int))) ∧ v.cell? ⟨w.heap.size, 1, none⟩ = some (.int .i64 ((m : Int))) ∧ v.cell? ⟨w.heap.size, 2, none⟩ = some (.int .i64 ((d : Int)))) (with_reducible exact ⟨(S8.at_ (x0 := .int .i64 ((y : Int))) (x1 := .int .i64 ((m : Int))) (x2 := .int .i64 ((d : Int))) (g := w.heap.size) E (by simp)).c0, (S8.at_ (x0 := .int .i64 ((y : Int))) (x1 := .int .i64 ((m : Int))) (x2 := .int .i64 ((d : Int))) (g := w.heap.size) E (by simp)).c1, (S8.at_ (x0 := .int .i64 ((y : Int))) (x1 := .int .i64 ((m : Int))) (x2 := .int .i64 ((d : Int))) (g := w.heap.size) E (by simp)).c2⟩)
    ((first | (go_at_call 46; (with_reducible refine (C1.out _ E.out.tab).mono ?_); rintro e w2 ⟨rfl, hb⟩; replace E := Lib.hid (S8.step E.out hb); clear hb) | (go_at_call 46; (with_reducible refine (C2.out _ E.out.tab).mono ?_); rintro e w3 ⟨rfl, hb⟩; replace E := Lib.hid (S8.step E.out hb); clear hb) | (go_at_call 46; (with_reducible refine (C3.out _ E.out.tab).mono ?_); rintro e w4 ⟨rfl, hb⟩; replace E := Lib.hid (S8.step E.out hb); clear hb)))
  go_wp2_with fail
  go_ret
  exact ⟨by rw [HS.out]; rfl, E.out.bel⟩

theorem conv8 {W : World} {g : Nat} {a b : Nat} (h0 : W.cell? ⟨g, 0, none⟩ = some (.int .u8 (a : Int))) (h1 : W.cell? ⟨g, 1, none⟩ = some (.int .u8 (b : Int))) (dst : TypeId) (hd : Tryd.prog.underlying dst = some .string) :
    (convert 55 dst (.slice (some ⟨g, 0, none⟩) 2 2)).run Tryd.prog W = .ok (.string (strOfNums [(a : Int), (b : Int)])) W :=
  run_convert_bytes_arg W 55 5 Tryd.underlying55 Tryd.underlying5 g 0 2 2 [(a : Int), (b : Int)] rfl (fun i hi => by
    have : i = 0 ∨ i = 1 := by omega
    rcases this with rfl | rfl
    · exact h0
    · exact h1) dst hd
theorem strOf_two (a b : Nat) : strOfNums [((48 + a : Nat) : Int), ((48 + b : Nat) : Int)] = st8 [dg8 a, dg8 b] := by
  unfold strOfNums st8 dg8
  simp only [List.map_cons, List.map_nil, Int.toNat_natCast]
set_option maxHeartbeats 2000000 in
set_option maxRecDepth 100000 in
theorem two_any (n : Nat) (w : World) (hn : n < 100000) : Calls Tryd.prog 47 #[.int .i64 (n : Int)] w (Ret8 w (.string (st8 (two8 n)))) := by
  obtain ⟨a, ha⟩ : ∃ a, n / 10 % 10 = a := ⟨_, rfl⟩
  obtain ⟨b, hb⟩ : ∃ b, n % 10 = b := ⟨_, rfl⟩
  have a9 : a ≤ 9 := by omega
  have b9 : b ≤ 9 := by omega
  have e1 : ((n : Int) / 10) % 10 = (a : Int) := by omega
  have e2 : (n : Int) % 10 = (b : Int) := by omega
  have hcv : ∀ dst, Tryd.prog.underlying dst = some .string → (convert 55 dst (.slice (some ⟨w.heap.size, 0, none⟩) 2 2)).run Tryd.prog (w.alloc (.cells #[.int .u8 (48 + (a : Int)), .int .u8 (48 + (b : Int))] 5)) = .ok (.string (st8 (two8 n))) (w.alloc (.cells #[.int .u8 (48 + (a : Int)), .int .u8 (48 + (b : Int))] 5)) := fun dst hd => by
    have h := conv8 (W := w.alloc (.cells #[.int .u8 (48 + (a : Int)), .int .u8 (48 + (b : Int))] 5)) (g := w.heap.size) (a := 48 + a) (b := 48 + b) (by simp) (by simp) dst hd
    rw [strOf_two] at h
    rw [h]
    unfold two8; rw [ha, hb]
  obtain ⟨S, hS⟩ : ∃ S, st8 (two8 n) = S := ⟨_, rfl⟩
  rw [hS] at hcv ⊢
  clear ha hb hS
  go_enter Tryd.func47, Tryd.ntmps47
  go_wp2_with fail
  go_ret
  exact ⟨rfl, (Below.refl _ _).alloc (Nat.le_refl _) _⟩
theorem two_is {x : Int} {k : Nat} {S : ByteArray} {w : World} (hx : x = (k : Int)) (hk : k < 100000) (hS : st8 (two8 k) = S) : Calls Tryd.prog 47 #[.int .i64 x] w (Ret8 w (.string S)) := by
  subst hx; subst hS; exact two_any k w hk

set_option maxHeartbeats 4000000 in
set_option maxRecDepth 100000 in
theorem reftext_yes (y m d : Nat) (hr : ok8 y m d = true)  (w : World) (hT : Tabs w) : Calls Tryd.prog 26 #[.agg #[.int .i64 ((y : Int)), .int .i64 ((m : Int)), .int .i64 ((d : Int))]] w (Ret8 w (.string (txt8 y m d))) := by
  have HT := Lib.hid hT
  clear hT
  obtain ⟨h1, h2, h3, h4, h5, h6⟩ := ok8_iff.1 hr
  have hl := len8_bd y m
  have HR := Lib.hid hr
  have y1 : (0 : Int) ≤ (y : Int) := by omega
  have y2 : (y : Int) ≤ 9999 := by omega
  have HYB : Hid (y < 10000) := by show _ < _; omega
  have HMB : Hid (m < 100) := by show _ < _; omega
  have HDB : Hid (d < 100) := by show _ < _; omega
  obtain ⟨P0, hP0⟩ : ∃ S, st8 (two8 (y / 100)) = S := ⟨_, rfl⟩
  obtain ⟨P1, hP1⟩ : ∃ S, st8 (two8 y) = S := ⟨_, rfl⟩
  obtain ⟨P2, hP2⟩ : ∃ S, st8 (two8 m) = S := ⟨_, rfl⟩
  obtain ⟨P3, hP3⟩ : ∃ S, st8 (two8 d) = S := ⟨_, rfl⟩
  obtain ⟨S0, hS0⟩ : ∃ S, st8 (two8 (y / 100) ++ two8 y) = S := ⟨_, rfl⟩
  obtain ⟨S1, hS1⟩ : ∃ S, st8 (two8 (y / 100) ++ two8 y ++ [45]) = S := ⟨_, rfl⟩
  obtain ⟨S2, hS2⟩ : ∃ S, st8 (two8 (y / 100) ++ two8 y ++ [45] ++ two8 m) = S := ⟨_, rfl⟩
  obtain ⟨S3, hS3⟩ : ∃ S, st8 (two8 (y / 100) ++ two8 y ++ [45] ++ two8 m ++ [45]) = S := ⟨_, rfl⟩
  obtain ⟨S4, hS4⟩ : ∃ S, st8 (two8 (y / 100) ++ two8 y ++ (45 :: (two8 m ++ (45 :: two8 d)))) = S := ⟨_, rfl⟩
  have ha0 : ∀ w', (Op.stringOp .add P0 P1).run Tryd.prog w' = .ok (.string S0) w' := fun w' => by
    rw [← hP0, ← hP1, ← hS0]; exact st8_add (by simp [two8, four8]) (by simp [four8, two8]) w'
  have ha1 : ∀ w', (Op.stringOp .add S0 ⟨#[45]⟩).run Tryd.prog w' = .ok (.string S1) w' := fun w' => by
    rw [← hS0, ← hS1]; exact st8_add (x := two8 (y / 100) ++ two8 y) (y := [45]) (by simp [two8, four8]) (by simp [four8, two8]) w'
  have ha2 : ∀ w', (Op.stringOp .add S1 P2).run Tryd.prog w' = .ok (.string S2) w' := fun w' => by
    rw [← hS1, ← hP2, ← hS2]; exact st8_add (by simp [two8, four8]) (by simp [four8, two8]) w'
  have ha3 : ∀ w', (Op.stringOp .add S2 ⟨#[45]⟩).run Tryd.prog w' = .ok (.string S3) w' := fun w' => by
    rw [← hS2, ← hS3]; exact st8_add (x := two8 (y / 100) ++ two8 y ++ [45] ++ two8 m) (y := [45]) (by simp [two8, four8]) (by simp [four8, two8]) w'
  have ha4 : ∀ w', (Op.stringOp .add S3 P3).run Tryd.prog w' = .ok (.string S4) w' := fun w' => by
    rw [← hS3, ← hP3, ← hS4]; exact st8_add (by simp [two8, four8]) (by simp [four8, two8]) w'
  have C0 : Hid (∀ w', Calls Tryd.prog 47 #[.int .i64 ((y : Int) / 100)] w' (Ret8 w' (.string P0))) := fun w' => two_is (k := y / 100) (by omega) (by have := HYB.out; have := HMB.out; have := HDB.out; omega) hP0
  have C1 : Hid (∀ w', Calls Tryd.prog 47 #[.int .i64 ((y : Int))] w' (Ret8 w' (.string P1))) := fun w' => two_is (k := y) (by omega) (by have := HYB.out; have := HMB.out; have := HDB.out; omega) hP1
  have C2 : Hid (∀ w', Calls Tryd.prog 47 #[.int .i64 ((m : Int))] w' (Ret8 w' (.string P2))) := fun w' => two_is (k := m) (by omega) (by have := HYB.out; have := HMB.out; have := HDB.out; omega) hP2
  have C3 : Hid (∀ w', Calls Tryd.prog 47 #[.int .i64 ((d : Int))] w' (Ret8 w' (.string P3))) := fun w' => two_is (k := d) (by omega) (by have := HYB.out; have := HMB.out; have := HDB.out; omega) hP3
  have HS : Hid (S4 = txt8 y m d) := by
    show _ = _; rw [← hS4]; unfold txt8 four8 two8
    rw [show y / 100 / 10 % 10 = y / 1000 % 10 by omega]; rfl
  clear hr h1 h2 h3 h4 h5 h6 hl hP0 hP1 hP2 hP3 hS0 hS1 hS2 hS3 hS4
  go_enter Tryd.func26, Tryd.ntmps26
  go_wp2_with fail
  generalize hW : World.alloc w _ = W0
  have E0 : S8 w W0 [(w.heap.size, .int .i64 ((y : Int)), .int .i64 ((m : Int)), .int .i64 ((d : Int)))] := by rw [← hW]; exact ((S8.start w HT.out).lay rfl)
  have E := Lib.hid E0
  clear hW E0
  obtain ⟨p0, p1, p2, pf0, pf1, pf2, plt⟩ := (S8.at_ (x0 := .int .i64 ((y : Int))) (x1 := .int .i64 ((m : Int))) (x2 := .int .i64 ((d : Int))) (g := w.heap.size) E (by simp))
  go_wp2_with fail
  refine (refright_is E.out.tab HR.out).mono ?_; rintro e w1 ⟨rfl, hb⟩; replace E := Lib.hid (S8.step E.out hb); clear hb
  clear p0 p1 p2 pf0 pf1 pf2 plt
  obtain ⟨p0, p1, p2, pf0, pf1, pf2, plt⟩ := (S8.at_ (x0 := .int .i64 ((y : Int))) (x1 := .int .i64 ((m : Int))) (x2 := .int .i64 ((d : Int))) (g := w.heap.size) E (by simp))
  go_wp2_with fail
  clear p0 p1 p2 pf0 pf1 pf2 plt
  have td : (y : Int).tdiv 100 = (y : Int) / 100 := Int.tdiv_eq_ediv_of_nonneg y1
  have tw : IntKind.i64.wrap ((y : Int) / 100) = (y : Int) / 100 := IntWalk.i64_in _ ⟨by omega, by omega⟩
  replace E := Lib.hid (S8.drew E.out)
  go_region_held3 (fun v => v.cell? ⟨w.heap.size, 0, none⟩ = some (.int .i64 ((y : Int))) ∧ v.cell? ⟨w.heap.size, 1, none⟩ = some (.int .i64 ((m : Int))) ∧ v.cell? ⟨w.heap.size, 2, none⟩ = some (.int .i64 ((d : Int)))) (with_reducible exact ⟨(S8.at_ (x0 := .int .i64 ((y : Int))) (x1 := .int .i64 ((m : Int))) (x2 := .int .i64 ((d : Int))) (g := w.heap.size) E (by simp)).c0, (S8.at_ (x0 := .int .i64 ((y : Int))) (x1 := .int .i64 ((m : Int))) (x2 := .int .i64 ((d : Int))) (g := w.heap.size) E (by simp)).c1, (S8.at_ (x0 := .int .i64 ((y : Int))) (x1 := .int .i64 ((m : Int))) (x2 := .int .i64 ((d : Int))) (g := w.heap.size) E (by simp)).c2⟩)
    ((first | (go_at_call 47; (with_reducible refine (C0.out _).mono ?_); rintro e w2 ⟨rfl, hb⟩; replace E := Lib.hid (S8.step E.out hb); clear hb) | (go_at_call 47; (with_reducible refine (C1.out _).mono ?_); rintro e w3 ⟨rfl, hb⟩; replace E := Lib.hid (S8.step E.out hb); clear hb) | (go_at_call 47; (with_reducible refine (C2.out _).mono ?_); rintro e w4 ⟨rfl, hb⟩; replace E := Lib.hid (S8.step E.out hb); clear hb) | (go_at_call 47; (with_reducible refine (C3.out _).mono ?_); rintro e w5 ⟨rfl, hb⟩; replace E := Lib.hid (S8.step E.out hb); clear hb)))
  clear td tw
  go_wp2_with fail
  go_ret
  exact ⟨by rw [HS.out]; rfl, E.out.bel⟩

theorem ok8_cast {y m d : Int} (h : ok8 y m d = true) : ∃ Y M D : Nat, y = Y ∧ m = M ∧ d = D := by
  obtain ⟨h1, h2, h3, h4, h5, h6⟩ := ok8_iff.1 h
  exact ⟨y.toNat, m.toNat, d.toNat, by omega, by omega, by omega⟩
/-- A day's text; none, if there is no such day. -/
def text8 (y m d : Int) : ByteArray := if ok8 y m d = true then txt8 y.toNat m.toNat d.toNat else ⟨#[]⟩
theorem text8_ok {y m d : Int} (h : ok8 y m d = true) : text8 y m d = txt8 y.toNat m.toNat d.toNat := if_pos h
theorem text8_not {y m d : Int} (h : ok8 y m d = false) : text8 y m d = ⟨#[]⟩ := if_neg (by rw [h]; simp)

theorem text_is {y m d : Int} {S : ByteArray} {w : World} (hT : Tabs w) (hS : text8 y m d = S) : Calls Tryd.prog 25 #[.agg #[.int .i64 y, .int .i64 m, .int .i64 d]] w (Ret8 w (.string S)) := by
  subst hS
  cases hr : ok8 y m d with
  | false => rw [text8_not hr]; exact text_not y m d hr w hT
  | true =>
    rw [text8_ok hr]
    obtain ⟨Y, M, D, rfl, rfl, rfl⟩ := ok8_cast hr
    exact text_yes Y M D hr w hT

theorem reftext_is {y m d : Int} {S : ByteArray} {w : World} (hT : Tabs w) (hS : text8 y m d = S) : Calls Tryd.prog 26 #[.agg #[.int .i64 y, .int .i64 m, .int .i64 d]] w (Ret8 w (.string S)) := by
  subst hS
  cases hr : ok8 y m d with
  | false => rw [text8_not hr]; exact reftext_not y m d hr w hT
  | true =>
    rw [text8_ok hr]
    obtain ⟨Y, M, D, rfl, rfl, rfl⟩ := ok8_cast hr
    exact reftext_yes Y M D hr w hT

end Go.Proofs.YtnndamhilbcdfaaDoor
