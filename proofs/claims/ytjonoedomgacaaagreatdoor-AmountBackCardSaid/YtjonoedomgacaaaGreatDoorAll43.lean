/- What the proof needs, texts AmoF, in one text. -/
import Derived.Test.YtjonoedomgacaaaGreatDoorAll39
set_option linter.unusedVariables false
set_option linter.unusedSimpArgs false
set_option maxRecDepth 100000
set_option maxHeartbeats 32000000
namespace Go.Proofs.YtjonoedomgacaaaGreatDoor.Num
open Go.RowKit
theorem aw_n0 : (tks 1 (wdsOf (bs9 ⟨#[50, 32, 42, 32, 51, 32, 85, 83, 68]⟩))).length = 4 := by kernel_rfl
theorem aw_s0 : ((tks 1 (wdsOf (bs9 ⟨#[50, 32, 42, 32, 51, 32, 85, 83, 68]⟩))).map tok).all (fun t => decide (t.2.size ≤ 30)) = true := by kernel_rfl
theorem aw_r0 : resA (amt ((tks 1 (wdsOf (bs9 ⟨#[50, 32, 42, 32, 51, 32, 85, 83, 68]⟩))).map tok) 0) = (⟨6, 0, ⟨#[85, 83, 68]⟩⟩, 4, 0) := by kernel_rfl
theorem aw_n1 : (tks 1 (wdsOf (bs9 ⟨#[85, 83, 68]⟩))).length = 1 := by kernel_rfl
theorem aw_s1 : ((tks 1 (wdsOf (bs9 ⟨#[85, 83, 68]⟩))).map tok).all (fun t => decide (t.2.size ≤ 30)) = true := by kernel_rfl
theorem aw_r1 : resU (unt ((tks 1 (wdsOf (bs9 ⟨#[85, 83, 68]⟩))).map tok) 0) = (⟨false, 0, 0, ⟨#[85, 83, 68]⟩⟩, 1, 0) := by kernel_rfl
theorem aw_n2 : (tks 1 (wdsOf (bs9 ⟨#[123, 123, 49, 48, 48, 46, 48, 32, 85, 83, 68, 44, 32, 50, 48, 50, 52, 45, 48, 49, 45, 48, 50, 44, 32, 34, 97, 34, 125, 125, 32, 120]⟩))).length = 9 := by kernel_rfl
theorem aw_s2 : ((tks 1 (wdsOf (bs9 ⟨#[123, 123, 49, 48, 48, 46, 48, 32, 85, 83, 68, 44, 32, 50, 48, 50, 52, 45, 48, 49, 45, 48, 50, 44, 32, 34, 97, 34, 125, 125, 32, 120]⟩))).map tok).all (fun t => decide (t.2.size ≤ 30)) = true := by kernel_rfl
theorem aw_r2 : resC (cst ((tks 1 (wdsOf (bs9 ⟨#[123, 123, 49, 48, 48, 46, 48, 32, 85, 83, 68, 44, 32, 50, 48, 50, 52, 45, 48, 49, 45, 48, 50, 44, 32, 34, 97, 34, 125, 125, 32, 120]⟩))).map tok) 0) = (⟨true, true, true, 1000, 1, ⟨#[85, 83, 68]⟩, 2024, 1, 2, ⟨#[97]⟩⟩, 8, 0) := by kernel_rfl
theorem aw_n3 : (tks 1 (wdsOf (bs9 ⟨#[64, 64, 32, 53, 32, 69, 85, 82]⟩))).length = 3 := by kernel_rfl
theorem aw_s3 : ((tks 1 (wdsOf (bs9 ⟨#[64, 64, 32, 53, 32, 69, 85, 82]⟩))).map tok).all (fun t => decide (t.2.size ≤ 30)) = true := by kernel_rfl
theorem aw_r3 : resP (prc ((tks 1 (wdsOf (bs9 ⟨#[64, 64, 32, 53, 32, 69, 85, 82]⟩))).map tok) 0) = (⟨true, true, true, 5, 0, ⟨#[69, 85, 82]⟩⟩, 3, 0) := by kernel_rfl
theorem aw_n4 : (tks 1 (wdsOf (bs9 ⟨#[123]⟩))).length = 1 := by kernel_rfl
theorem aw_s4 : ((tks 1 (wdsOf (bs9 ⟨#[123]⟩))).map tok).all (fun t => decide (t.2.size ≤ 30)) = true := by kernel_rfl
theorem aw_r4 : resU (unt ((tks 1 (wdsOf (bs9 ⟨#[123]⟩))).map tok) 0) = (⟨false, 0, 0, ⟨#[]⟩⟩, 0, 0) := by kernel_rfl
theorem aw_n5 : (tks 1 (wdsOf (bs9 ⟨#[123, 49, 32, 85, 83, 68, 44, 32, 69, 85, 82, 125]⟩))).length = 6 := by kernel_rfl
theorem aw_s5 : ((tks 1 (wdsOf (bs9 ⟨#[123, 49, 32, 85, 83, 68, 44, 32, 69, 85, 82, 125]⟩))).map tok).all (fun t => decide (t.2.size ≤ 30)) = true := by kernel_rfl
theorem aw_r5 : resC (cst ((tks 1 (wdsOf (bs9 ⟨#[123, 49, 32, 85, 83, 68, 44, 32, 69, 85, 82, 125]⟩))).map tok) 0) = (⟨false, false, false, 0, 0, ⟨#[]⟩, 0, 0, 0, ⟨#[]⟩⟩, 4, 3) := by kernel_rfl
theorem aw_n6 : (tks 1 (wdsOf (bs9 ⟨#[123, 49, 32, 85, 83, 68]⟩))).length = 3 := by kernel_rfl
theorem aw_s6 : ((tks 1 (wdsOf (bs9 ⟨#[123, 49, 32, 85, 83, 68]⟩))).map tok).all (fun t => decide (t.2.size ≤ 30)) = true := by kernel_rfl
theorem aw_r6 : resC (cst ((tks 1 (wdsOf (bs9 ⟨#[123, 49, 32, 85, 83, 68]⟩))).map tok) 0) = (⟨false, false, false, 0, 0, ⟨#[]⟩, 0, 0, 0, ⟨#[]⟩⟩, 3, 2) := by kernel_rfl
theorem dg_small {a : Nat} (h : a < 10 ^ 18) : (dg a).length ≤ 900 := Nat.le_trans (len_nine h) (by decide)
theorem eq_lit {s : ByteArray} {l : List UInt8} (h : bs9 s = l.map UInt8.toNat) : (s.toList == l) = true := by
 have e : s = ⟨l.toArray⟩ := bs9_inj (by rw [h]; rfl)
 rw [e, ByteArray.toList_eq, beq_iff_eq]
theorem awake14 (RA : READA) (TA : TEXTA) (RU : READU) (TU : TEXTU) (SU : SAMEU) (RC : READC) (TC : TEXTC) (SC : SAMEC) (RP : READP) (TP : TEXTP) (SP : SAMEP) : AWK14 := fun w hok => by
 have OK : Hid (∀ {W : World}, Below w.heap.size w W → Ok12 W) := fun hb => okw12 hok hb
 have E := Lib.hid (S14.start w)
 clear hok
 go_enter Tryz.func5, Tryz.ntmps5
 go_wp2_with fail
 refine (words14 (s := ⟨#[50, 32, 42, 32, 51, 32, 85, 83, 68]⟩) (OK.out E.out.bel) (by decide)).mono ?_; rintro e wa0 ⟨B0, m0, d0, rfl, hr, hb⟩
 replace E := Lib.hid (E.out.step hb)
 have R := Lib.hid hr
 have hm : m0 ≤ 400 := by have := hr.len; rw [aw_n0] at this; omega
 have SZ : Hid (Siz _ _) := siz_many (fun t ht => of_decide_eq_true (List.all_eq_true.1 aw_s0 t ht)) (by rw [List.length_map, aw_n0]; decide)
 clear hr hb
 go_wp2_with fail
 obtain ⟨i0, k0, s0, g0, gg0⟩ : ∃ (i0 : Int) (k0 : Nat) (s0 : ByteArray), resA (amt ((tks 1 (wdsOf (bs9 ⟨#[50, 32, 42, 32, 51, 32, 85, 83, 68]⟩))).map tok) 0) = (⟨i0, k0, s0⟩, 4, 0) ∧ (i0 = 6 ∧ k0 = 0 ∧ bs9 s0 = [85, 83, 68]) := ⟨6, 0, ⟨#[85, 83, 68]⟩, aw_r0, rfl, rfl, rfl⟩
 have G0 := Lib.hid gg0
 refine (RA R.out (Nat.le_refl _) hm SZ.out (OK.out E.out.bel) g0).mono ?_; rintro e w0 ⟨A0, n0, c0, rfl, hn, hb⟩
 replace E := Lib.hid (E.out.push hb hn)
 clear hn hb g0 gg0 R hm SZ
 go_upto_region 2 with fail
 replace E := Lib.hid (E.out.lay #[.bool (ngB i0), .slice A0 n0 c0, .int .i64 (k0 : Int), .string s0] 56 rfl)
 generalize hW : World.alloc w0 _ = V0 at E ⊢
 clear hW
 generalize w0.heap.size = g0 at E ⊢
 go_wp2_with fail
 refine (words14 (s := ⟨#[85, 83, 68]⟩) (OK.out E.out.bel) (by decide)).mono ?_; rintro e wa1 ⟨B1, m1, d1, rfl, hr, hb⟩
 replace E := Lib.hid (E.out.step hb)
 have R := Lib.hid hr
 have hm : m1 ≤ 400 := by have := hr.len; rw [aw_n1] at this; omega
 have SZ : Hid (Siz _ _) := siz_many (fun t ht => of_decide_eq_true (List.all_eq_true.1 aw_s1 t ht)) (by rw [List.length_map, aw_n1]; decide)
 clear hr hb
 go_wp2_with fail
 obtain ⟨i1, k1, s1, g1, gg1⟩ : ∃ (i1 : Int) (k1 : Nat) (s1 : ByteArray), resU (unt ((tks 1 (wdsOf (bs9 ⟨#[85, 83, 68]⟩))).map tok) 0) = (⟨false, i1, k1, s1⟩, 1, 0) ∧ (i1 = 0 ∧ k1 = 0 ∧ bs9 s1 = [85, 83, 68]) := ⟨0, 0, ⟨#[85, 83, 68]⟩, aw_r1, rfl, rfl, rfl⟩
 have G1 := Lib.hid gg1
 refine (RU R.out (Nat.le_refl _) hm SZ.out (OK.out E.out.bel) g1).mono ?_; rintro e w1 ⟨A1, n1, c1, rfl, hn, hb⟩
 replace E := Lib.hid (E.out.push hb hn)
 clear hn hb g1 gg1 R hm SZ
 go_upto_region 3 with fail
 replace E := Lib.hid (E.out.lay #[.bool false, .bool (ngB i1), .slice A1 n1 c1, .int .i64 (k1 : Int), .string s1] 30 rfl)
 generalize hW : World.alloc w1 _ = V1 at E ⊢
 clear hW
 generalize w1.heap.size = g1 at E ⊢
 go_wp2_with fail
 refine (words14 (s := ⟨#[123, 123, 49, 48, 48, 46, 48, 32, 85, 83, 68, 44, 32, 50, 48, 50, 52, 45, 48, 49, 45, 48, 50, 44, 32, 34, 97, 34, 125, 125, 32, 120]⟩) (OK.out E.out.bel) (by decide)).mono ?_; rintro e wa2 ⟨B2, m2, d2, rfl, hr, hb⟩
 replace E := Lib.hid (E.out.step hb)
 have R := Lib.hid hr
 have hm : m2 ≤ 400 := by have := hr.len; rw [aw_n2] at this; omega
 have SZ : Hid (Siz _ _) := siz_many (fun t ht => of_decide_eq_true (List.all_eq_true.1 aw_s2 t ht)) (by rw [List.length_map, aw_n2]; decide)
 clear hr hb
 go_wp2_with fail
 obtain ⟨i2, k2, s2, i2a, i2b, i2c, s2a, g2, gg2⟩ : ∃ (i2 : Int) (k2 : Nat) (s2 : ByteArray) (i2a : Int) (i2b : Int) (i2c : Int) (s2a : ByteArray), resC (cst ((tks 1 (wdsOf (bs9 ⟨#[123, 123, 49, 48, 48, 46, 48, 32, 85, 83, 68, 44, 32, 50, 48, 50, 52, 45, 48, 49, 45, 48, 50, 44, 32, 34, 97, 34, 125, 125, 32, 120]⟩))).map tok) 0) = (⟨true, true, true, i2, k2, s2, i2a, i2b, i2c, s2a⟩, 8, 0) ∧ (i2 = 1000 ∧ k2 = 1 ∧ bs9 s2 = [85, 83, 68] ∧ i2a = 2024 ∧ i2b = 1 ∧ i2c = 2 ∧ bs9 s2a = [97]) := ⟨1000, 1, ⟨#[85, 83, 68]⟩, 2024, 1, 2, ⟨#[97]⟩, aw_r2, rfl, rfl, rfl, rfl, rfl, rfl, rfl⟩
 have G2 := Lib.hid gg2
 refine (RC R.out (Nat.le_refl _) hm SZ.out (OK.out E.out.bel) g2).mono ?_; rintro e w2 ⟨A2, n2, c2, rfl, hn, hb⟩
 replace E := Lib.hid (E.out.push hb hn)
 clear hn hb g2 gg2 R hm SZ
 go_upto_region 4 with fail
 replace E := Lib.hid (E.out.lay #[.bool true, .bool true, .bool true, .bool (ngB i2), .slice A2 n2 c2, .int .i64 (k2 : Int), .string s2, .int .i64 i2a, .int .i64 i2b, .int .i64 i2c, .string s2a] 40 rfl)
 generalize hW : World.alloc w2 _ = V2 at E ⊢
 clear hW
 generalize w2.heap.size = g2 at E ⊢
 go_wp2_with fail
 refine (words14 (s := ⟨#[64, 64, 32, 53, 32, 69, 85, 82]⟩) (OK.out E.out.bel) (by decide)).mono ?_; rintro e wa3 ⟨B3, m3, d3, rfl, hr, hb⟩
 replace E := Lib.hid (E.out.step hb)
 have R := Lib.hid hr
 have hm : m3 ≤ 400 := by have := hr.len; rw [aw_n3] at this; omega
 have SZ : Hid (Siz _ _) := siz_many (fun t ht => of_decide_eq_true (List.all_eq_true.1 aw_s3 t ht)) (by rw [List.length_map, aw_n3]; decide)
 clear hr hb
 go_wp2_with fail
 obtain ⟨i3, k3, s3, g3, gg3⟩ : ∃ (i3 : Int) (k3 : Nat) (s3 : ByteArray), resP (prc ((tks 1 (wdsOf (bs9 ⟨#[64, 64, 32, 53, 32, 69, 85, 82]⟩))).map tok) 0) = (⟨true, true, true, i3, k3, s3⟩, 3, 0) ∧ (i3 = 5 ∧ k3 = 0 ∧ bs9 s3 = [69, 85, 82]) := ⟨5, 0, ⟨#[69, 85, 82]⟩, aw_r3, rfl, rfl, rfl⟩
 have G3 := Lib.hid gg3
 refine (RP R.out (Nat.le_refl _) hm SZ.out (OK.out E.out.bel) g3).mono ?_; rintro e w3 ⟨A3, n3, c3, rfl, hn, hb⟩
 replace E := Lib.hid (E.out.push hb hn)
 clear hn hb g3 gg3 R hm SZ
 go_upto_region 5 with fail
 replace E := Lib.hid (E.out.lay #[.bool true, .bool true, .bool true, .bool (ngB i3), .slice A3 n3 c3, .int .i64 (k3 : Int), .string s3] 46 rfl)
 generalize hW : World.alloc w3 _ = V3 at E ⊢
 clear hW
 generalize w3.heap.size = g3 at E ⊢
 go_wp2_with fail
 refine (words14 (s := ⟨#[123]⟩) (OK.out E.out.bel) (by decide)).mono ?_; rintro e wa4 ⟨B4, m4, d4, rfl, hr, hb⟩
 replace E := Lib.hid (E.out.step hb)
 have R := Lib.hid hr
 have hm : m4 ≤ 400 := by have := hr.len; rw [aw_n4] at this; omega
 have SZ : Hid (Siz _ _) := siz_many (fun t ht => of_decide_eq_true (List.all_eq_true.1 aw_s4 t ht)) (by rw [List.length_map, aw_n4]; decide)
 clear hr hb
 go_wp2_with fail
 obtain ⟨i4, k4, s4, g4, gg4⟩ : ∃ (i4 : Int) (k4 : Nat) (s4 : ByteArray), resU (unt ((tks 1 (wdsOf (bs9 ⟨#[123]⟩))).map tok) 0) = (⟨false, i4, k4, s4⟩, 0, 0) ∧ (i4 = 0 ∧ k4 = 0 ∧ bs9 s4 = []) := ⟨0, 0, ⟨#[]⟩, aw_r4, rfl, rfl, rfl⟩
 have G4 := Lib.hid gg4
 refine (RU R.out (Nat.le_refl _) hm SZ.out (OK.out E.out.bel) g4).mono ?_; rintro e w4 ⟨A4, n4, c4, rfl, hn, hb⟩
 replace E := Lib.hid (E.out.push hb hn)
 clear hn hb g4 gg4 R hm SZ
 go_upto_region 6 with fail
 replace E := Lib.hid (E.out.lay #[.bool false, .bool (ngB i4), .slice A4 n4 c4, .int .i64 (k4 : Int), .string s4] 30 rfl)
 generalize hW : World.alloc w4 _ = V4 at E ⊢
 clear hW
 generalize w4.heap.size = g4 at E ⊢
 go_wp2_with fail
 refine (words14 (s := ⟨#[123, 49, 32, 85, 83, 68, 44, 32, 69, 85, 82, 125]⟩) (OK.out E.out.bel) (by decide)).mono ?_; rintro e wa5 ⟨B5, m5, d5, rfl, hr, hb⟩
 replace E := Lib.hid (E.out.step hb)
 have R := Lib.hid hr
 have hm : m5 ≤ 400 := by have := hr.len; rw [aw_n5] at this; omega
 have SZ : Hid (Siz _ _) := siz_many (fun t ht => of_decide_eq_true (List.all_eq_true.1 aw_s5 t ht)) (by rw [List.length_map, aw_n5]; decide)
 clear hr hb
 go_wp2_with fail
 obtain ⟨i5, k5, s5, i5a, i5b, i5c, s5a, g5, gg5⟩ : ∃ (i5 : Int) (k5 : Nat) (s5 : ByteArray) (i5a : Int) (i5b : Int) (i5c : Int) (s5a : ByteArray), resC (cst ((tks 1 (wdsOf (bs9 ⟨#[123, 49, 32, 85, 83, 68, 44, 32, 69, 85, 82, 125]⟩))).map tok) 0) = (⟨false, false, false, i5, k5, s5, i5a, i5b, i5c, s5a⟩, 4, 3) ∧ (i5 = 0 ∧ k5 = 0 ∧ bs9 s5 = [] ∧ i5a = 0 ∧ i5b = 0 ∧ i5c = 0 ∧ bs9 s5a = []) := ⟨0, 0, ⟨#[]⟩, 0, 0, 0, ⟨#[]⟩, aw_r5, rfl, rfl, rfl, rfl, rfl, rfl, rfl⟩
 have G5 := Lib.hid gg5
 refine (RC R.out (Nat.le_refl _) hm SZ.out (OK.out E.out.bel) g5).mono ?_; rintro e w5 ⟨A5, n5, c5, rfl, hn, hb⟩
 replace E := Lib.hid (E.out.push hb hn)
 clear hn hb g5 gg5 R hm SZ
 go_upto_region 7 with fail
 replace E := Lib.hid (E.out.lay #[.bool false, .bool false, .bool false, .bool (ngB i5), .slice A5 n5 c5, .int .i64 (k5 : Int), .string s5, .int .i64 i5a, .int .i64 i5b, .int .i64 i5c, .string s5a] 40 rfl)
 generalize hW : World.alloc w5 _ = V5 at E ⊢
 clear hW
 generalize w5.heap.size = g5 at E ⊢
 go_wp2_with fail
 refine (words14 (s := ⟨#[123, 49, 32, 85, 83, 68]⟩) (OK.out E.out.bel) (by decide)).mono ?_; rintro e wa6 ⟨B6, m6, d6, rfl, hr, hb⟩
 replace E := Lib.hid (E.out.step hb)
 have R := Lib.hid hr
 have hm : m6 ≤ 400 := by have := hr.len; rw [aw_n6] at this; omega
 have SZ : Hid (Siz _ _) := siz_many (fun t ht => of_decide_eq_true (List.all_eq_true.1 aw_s6 t ht)) (by rw [List.length_map, aw_n6]; decide)
 clear hr hb
 go_wp2_with fail
 obtain ⟨i6, k6, s6, i6a, i6b, i6c, s6a, g6, gg6⟩ : ∃ (i6 : Int) (k6 : Nat) (s6 : ByteArray) (i6a : Int) (i6b : Int) (i6c : Int) (s6a : ByteArray), resC (cst ((tks 1 (wdsOf (bs9 ⟨#[123, 49, 32, 85, 83, 68]⟩))).map tok) 0) = (⟨false, false, false, i6, k6, s6, i6a, i6b, i6c, s6a⟩, 3, 2) ∧ (i6 = 0 ∧ k6 = 0 ∧ bs9 s6 = [] ∧ i6a = 0 ∧ i6b = 0 ∧ i6c = 0 ∧ bs9 s6a = []) := ⟨0, 0, ⟨#[]⟩, 0, 0, 0, ⟨#[]⟩, aw_r6, rfl, rfl, rfl, rfl, rfl, rfl, rfl⟩
 have G6 := Lib.hid gg6
 refine (RC R.out (Nat.le_refl _) hm SZ.out (OK.out E.out.bel) g6).mono ?_; rintro e w6 ⟨A6, n6, c6, rfl, hn, hb⟩
 replace E := Lib.hid (E.out.push hb hn)
 clear hn hb g6 gg6 R hm SZ
 go_upto_region 8 with fail
 replace E := Lib.hid (E.out.lay #[.bool false, .bool false, .bool false, .bool (ngB i6), .slice A6 n6 c6, .int .i64 (k6 : Int), .string s6, .int .i64 i6a, .int .i64 i6b, .int .i64 i6c, .string s6a] 40 rfl)
 generalize hW : World.alloc w6 _ = V6 at E ⊢
 clear hW
 generalize w6.heap.size = g6 at E ⊢
 obtain ⟨T0, hT, hD0⟩ : ∃ T : ByteArray, txtA ⟨i0, k0, s0⟩ = bs9 T ∧ (T.toList == [54, 32, 85, 83, 68]) = true := ⟨⟨#[54, 32, 85, 83, 68]⟩, by obtain ⟨rfl, rfl, y2⟩ := G0.out; obtain rfl : s0 = ⟨#[85, 83, 68]⟩ := bs9_inj y2; kernel_rfl, eq_lit rfl⟩
 have HT0 := Lib.hid hT
 clear hT
 have sz0 : n0 ≤ 900 ∧ k0 ≤ 4010 ∧ s0.size ≤ 30 := by
  have h1 := (S14.got E (A := A0) (n := n0) (c := c0) (a := i0.natAbs) (List.mem_cons_of_mem _ (List.mem_cons_of_mem _ (List.mem_cons_of_mem _ (List.mem_cons_of_mem _ (List.mem_cons_of_mem _ (List.mem_cons_of_mem _ List.mem_cons_self))))))).len
  obtain ⟨rfl, rfl, y2⟩ := G0.out
  obtain rfl : s0 = ⟨#[85, 83, 68]⟩ := bs9_inj y2; exact ⟨by rw [← h1]; exact dg_small (by decide), by decide, by decide⟩
 obtain ⟨q0_0, q0_1, q0_2, q0_3⟩ := S14.c4 (g := g0) E (List.mem_cons_of_mem _ (List.mem_cons_of_mem _ (List.mem_cons_of_mem _ (List.mem_cons_of_mem _ (List.mem_cons_of_mem _ (List.mem_cons_of_mem _ List.mem_cons_self))))))
 go_wp2_with fail
 clear q0_0 q0_1 q0_2 q0_3
 refine (TA (v := ⟨i0, k0, s0⟩) (S14.got E (A := A0) (n := n0) (c := c0) (a := i0.natAbs) (List.mem_cons_of_mem _ (List.mem_cons_of_mem _ (List.mem_cons_of_mem _ (List.mem_cons_of_mem _ (List.mem_cons_of_mem _ (List.mem_cons_of_mem _ List.mem_cons_self))))))) sz0.1 sz0.2.1 sz0.2.2 (OK.out E.out.bel) HT0.out).mono ?_; rintro e x1 ⟨rfl, hb⟩
 replace E := Lib.hid (E.out.step hb); clear hb
 have ds1 : (s1.toList == [85, 83, 68]) = true := by obtain ⟨-, -, y⟩ := G1.out; exact eq_lit y
 obtain ⟨T2, hT, hD2⟩ : ∃ T : ByteArray, txtC ⟨true, true, true, i2, k2, s2, i2a, i2b, i2c, s2a⟩ = bs9 T ∧ (T.toList == [123, 123, 49, 48, 48, 46, 48, 32, 85, 83, 68, 44, 32, 50, 48, 50, 52, 45, 48, 49, 45, 48, 50, 44, 32, 34, 97, 34, 125, 125]) = true := ⟨⟨#[123, 123, 49, 48, 48, 46, 48, 32, 85, 83, 68, 44, 32, 50, 48, 50, 52, 45, 48, 49, 45, 48, 50, 44, 32, 34, 97, 34, 125, 125]⟩, by obtain ⟨rfl, rfl, y2, rfl, rfl, rfl, y6⟩ := G2.out; obtain rfl : s2 = ⟨#[85, 83, 68]⟩ := bs9_inj y2; obtain rfl : s2a = ⟨#[97]⟩ := bs9_inj y6; kernel_rfl, eq_lit rfl⟩
 have HT2 := Lib.hid hT
 clear hT
 have sz2 : n2 ≤ 900 ∧ k2 ≤ 4010 ∧ s2.size ≤ 30 ∧ s2a.size ≤ 30 := by
  have h1 := (S14.got E (A := A2) (n := n2) (c := c2) (a := i2.natAbs) (List.mem_cons_of_mem _ (List.mem_cons_of_mem _ (List.mem_cons_of_mem _ (List.mem_cons_of_mem _ List.mem_cons_self))))).len
  obtain ⟨rfl, rfl, y2, rfl, rfl, rfl, y6⟩ := G2.out
  obtain rfl : s2 = ⟨#[85, 83, 68]⟩ := bs9_inj y2; obtain rfl : s2a = ⟨#[97]⟩ := bs9_inj y6; exact ⟨by rw [← h1]; exact dg_small (by decide), by decide, by decide, by decide⟩
 obtain ⟨q1_0, q1_1, q1_2, q1_3, q1_4⟩ := S14.c5 (g := g1) E (List.mem_cons_of_mem _ (List.mem_cons_of_mem _ (List.mem_cons_of_mem _ (List.mem_cons_of_mem _ (List.mem_cons_of_mem _ List.mem_cons_self)))))
 obtain ⟨q2_0, q2_1, q2_2, q2_3, q2_4, q2_5, q2_6, q2_7, q2_8, q2_9, q2_10⟩ := S14.c11 (g := g2) E (List.mem_cons_of_mem _ (List.mem_cons_of_mem _ (List.mem_cons_of_mem _ (List.mem_cons_of_mem _ List.mem_cons_self))))
 go_wp2_with fail
 clear q1_0 q1_1 q1_2 q1_3 q1_4 q2_0 q2_1 q2_2 q2_3 q2_4 q2_5 q2_6 q2_7 q2_8 q2_9 q2_10
 refine (TC (v := ⟨true, true, true, i2, k2, s2, i2a, i2b, i2c, s2a⟩) (S14.got E (A := A2) (n := n2) (c := c2) (a := i2.natAbs) (List.mem_cons_of_mem _ (List.mem_cons_of_mem _ (List.mem_cons_of_mem _ (List.mem_cons_of_mem _ List.mem_cons_self))))) sz2.1 sz2.2.1 sz2.2.2.1 sz2.2.2.2 (OK.out E.out.bel) HT2.out).mono ?_; rintro e x2 ⟨rfl, hb⟩
 replace E := Lib.hid (E.out.step hb); clear hb
 obtain ⟨T3, hT, hD3⟩ : ∃ T : ByteArray, txtP ⟨true, true, true, i3, k3, s3⟩ = bs9 T ∧ (T.toList == [64, 64, 32, 53, 32, 69, 85, 82]) = true := ⟨⟨#[64, 64, 32, 53, 32, 69, 85, 82]⟩, by obtain ⟨rfl, rfl, y2⟩ := G3.out; obtain rfl : s3 = ⟨#[69, 85, 82]⟩ := bs9_inj y2; kernel_rfl, eq_lit rfl⟩
 have HT3 := Lib.hid hT
 clear hT
 have sz3 : n3 ≤ 900 ∧ k3 ≤ 4010 ∧ s3.size ≤ 30 := by
  have h1 := (S14.got E (A := A3) (n := n3) (c := c3) (a := i3.natAbs) (List.mem_cons_of_mem _ (List.mem_cons_of_mem _ (List.mem_cons_of_mem _ List.mem_cons_self)))).len
  obtain ⟨rfl, rfl, y2⟩ := G3.out
  obtain rfl : s3 = ⟨#[69, 85, 82]⟩ := bs9_inj y2; exact ⟨by rw [← h1]; exact dg_small (by decide), by decide, by decide⟩
 obtain ⟨q3_0, q3_1, q3_2, q3_3, q3_4, q3_5, q3_6⟩ := S14.c7 (g := g3) E (List.mem_cons_of_mem _ (List.mem_cons_of_mem _ (List.mem_cons_of_mem _ List.mem_cons_self)))
 go_wp2_with fail
 clear q3_0 q3_1 q3_2 q3_3 q3_4 q3_5 q3_6
 refine (TP (v := ⟨true, true, true, i3, k3, s3⟩) (S14.got E (A := A3) (n := n3) (c := c3) (a := i3.natAbs) (List.mem_cons_of_mem _ (List.mem_cons_of_mem _ (List.mem_cons_of_mem _ List.mem_cons_self)))) sz3.1 sz3.2.1 sz3.2.2 (OK.out E.out.bel) HT3.out).mono ?_; rintro e x3 ⟨rfl, hb⟩
 replace E := Lib.hid (E.out.step hb); clear hb
 obtain ⟨q4_0, q4_1, q4_2, q4_3, q4_4⟩ := S14.c5 (g := g4) E (List.mem_cons_of_mem _ (List.mem_cons_of_mem _ List.mem_cons_self))
 go_wp2_with fail
 clear q4_0 q4_1 q4_2 q4_3 q4_4
 refine (SU (v := ⟨false, i4, k4, s4⟩) (v' := ⟨false, 0, 0, ⟨#[]⟩⟩) (S14.got E (A := A4) (n := n4) (c := c4) (a := i4.natAbs) (List.mem_cons_of_mem _ (List.mem_cons_of_mem _ List.mem_cons_self))) (num_zero _ _) (OK.out E.out.bel) (by obtain ⟨rfl, rfl, y⟩ := G4.out; obtain rfl : s4 = ⟨#[]⟩ := bs9_inj y; rfl)).mono ?_; rintro e x4 ⟨rfl, hb⟩
 replace E := Lib.hid (E.out.step hb); clear hb
 obtain ⟨T1, hT, hD1⟩ : ∃ T : ByteArray, txtU ⟨false, i1, k1, s1⟩ = bs9 T ∧ (T.toList == [85, 83, 68]) = true := ⟨⟨#[85, 83, 68]⟩, by obtain ⟨rfl, rfl, y2⟩ := G1.out; obtain rfl : s1 = ⟨#[85, 83, 68]⟩ := bs9_inj y2; kernel_rfl, eq_lit rfl⟩
 have HT1 := Lib.hid hT
 clear hT
 have sz1 : n1 ≤ 900 ∧ k1 ≤ 4010 ∧ s1.size ≤ 30 := by
  have h1 := (S14.got E (A := A1) (n := n1) (c := c1) (a := i1.natAbs) (List.mem_cons_of_mem _ (List.mem_cons_of_mem _ (List.mem_cons_of_mem _ (List.mem_cons_of_mem _ (List.mem_cons_of_mem _ List.mem_cons_self)))))).len
  obtain ⟨rfl, rfl, y2⟩ := G1.out
  obtain rfl : s1 = ⟨#[85, 83, 68]⟩ := bs9_inj y2; exact ⟨by rw [← h1]; exact dg_small (by decide), by decide, by decide⟩
 obtain ⟨q1_0, q1_1, q1_2, q1_3, q1_4⟩ := S14.c5 (g := g1) E (List.mem_cons_of_mem _ (List.mem_cons_of_mem _ (List.mem_cons_of_mem _ (List.mem_cons_of_mem _ (List.mem_cons_of_mem _ List.mem_cons_self)))))
 go_wp2_with fail
 clear q1_0 q1_1 q1_2 q1_3 q1_4
 refine (TU (v := ⟨false, i1, k1, s1⟩) (S14.got E (A := A1) (n := n1) (c := c1) (a := i1.natAbs) (List.mem_cons_of_mem _ (List.mem_cons_of_mem _ (List.mem_cons_of_mem _ (List.mem_cons_of_mem _ (List.mem_cons_of_mem _ List.mem_cons_self)))))) sz1.1 sz1.2.1 sz1.2.2 (OK.out E.out.bel) HT1.out).mono ?_; rintro e x5 ⟨rfl, hb⟩
 replace E := Lib.hid (E.out.step hb); clear hb
 obtain ⟨q2_0, q2_1, q2_2, q2_3, q2_4, q2_5, q2_6, q2_7, q2_8, q2_9, q2_10⟩ := S14.c11 (g := g2) E (List.mem_cons_of_mem _ (List.mem_cons_of_mem _ (List.mem_cons_of_mem _ (List.mem_cons_of_mem _ List.mem_cons_self))))
 go_wp2_with fail
 clear q2_0 q2_1 q2_2 q2_3 q2_4 q2_5 q2_6 q2_7 q2_8 q2_9 q2_10
 refine (SC (v := ⟨true, true, true, i2, k2, s2, i2a, i2b, i2c, s2a⟩) (v' := ⟨true, true, true, i2, k2, s2, i2a, i2b, i2c, s2a⟩) (S14.got E (A := A2) (n := n2) (c := c2) (a := i2.natAbs) (List.mem_cons_of_mem _ (List.mem_cons_of_mem _ (List.mem_cons_of_mem _ (List.mem_cons_of_mem _ List.mem_cons_self))))) (S14.got E (A := A2) (n := n2) (c := c2) (a := i2.natAbs) (List.mem_cons_of_mem _ (List.mem_cons_of_mem _ (List.mem_cons_of_mem _ (List.mem_cons_of_mem _ List.mem_cons_self))))) (OK.out E.out.bel) (sameC_refl _)).mono ?_; rintro e x6 ⟨rfl, hb⟩
 replace E := Lib.hid (E.out.step hb); clear hb
 obtain ⟨q2_0, q2_1, q2_2, q2_3, q2_4, q2_5, q2_6, q2_7, q2_8, q2_9, q2_10⟩ := S14.c11 (g := g2) E (List.mem_cons_of_mem _ (List.mem_cons_of_mem _ (List.mem_cons_of_mem _ (List.mem_cons_of_mem _ List.mem_cons_self))))
 go_wp2_with fail
 clear q2_0 q2_1 q2_2 q2_3 q2_4 q2_5 q2_6 q2_7 q2_8 q2_9 q2_10
 refine (SC (v := ⟨true, true, true, i2, k2, s2, i2a, i2b, i2c, s2a⟩) (v' := ⟨false, false, false, 0, 0, ⟨#[]⟩, 0, 0, 0, ⟨#[]⟩⟩) (x := false) (S14.got E (A := A2) (n := n2) (c := c2) (a := i2.natAbs) (List.mem_cons_of_mem _ (List.mem_cons_of_mem _ (List.mem_cons_of_mem _ (List.mem_cons_of_mem _ List.mem_cons_self))))) (num_zero _ _) (OK.out E.out.bel) (decide_eq_false (fun h => Bool.noConfusion (show true = false from h.1)))).mono ?_; rintro e x7 ⟨rfl, hb⟩
 replace E := Lib.hid (E.out.step hb); clear hb
 obtain ⟨q3_0, q3_1, q3_2, q3_3, q3_4, q3_5, q3_6⟩ := S14.c7 (g := g3) E (List.mem_cons_of_mem _ (List.mem_cons_of_mem _ (List.mem_cons_of_mem _ List.mem_cons_self)))
 go_wp2_with fail
 clear q3_0 q3_1 q3_2 q3_3 q3_4 q3_5 q3_6
 refine (SP (v := ⟨true, true, true, i3, k3, s3⟩) (v' := ⟨true, true, true, i3, k3, s3⟩) (S14.got E (A := A3) (n := n3) (c := c3) (a := i3.natAbs) (List.mem_cons_of_mem _ (List.mem_cons_of_mem _ (List.mem_cons_of_mem _ List.mem_cons_self)))) (S14.got E (A := A3) (n := n3) (c := c3) (a := i3.natAbs) (List.mem_cons_of_mem _ (List.mem_cons_of_mem _ (List.mem_cons_of_mem _ List.mem_cons_self)))) (OK.out E.out.bel) (sameP_refl _)).mono ?_; rintro e x8 ⟨rfl, hb⟩
 replace E := Lib.hid (E.out.step hb); clear hb
 obtain ⟨q3_0, q3_1, q3_2, q3_3, q3_4, q3_5, q3_6⟩ := S14.c7 (g := g3) E (List.mem_cons_of_mem _ (List.mem_cons_of_mem _ (List.mem_cons_of_mem _ List.mem_cons_self)))
 go_wp2_with fail
 clear q3_0 q3_1 q3_2 q3_3 q3_4 q3_5 q3_6
 refine (SP (v := ⟨true, true, true, i3, k3, s3⟩) (v' := ⟨false, false, false, 0, 0, ⟨#[]⟩⟩) (x := false) (S14.got E (A := A3) (n := n3) (c := c3) (a := i3.natAbs) (List.mem_cons_of_mem _ (List.mem_cons_of_mem _ (List.mem_cons_of_mem _ List.mem_cons_self)))) (num_zero _ _) (OK.out E.out.bel) (decide_eq_false (fun h => Bool.noConfusion (show true = false from h.1)))).mono ?_; rintro e x9 ⟨rfl, hb⟩
 replace E := Lib.hid (E.out.step hb); clear hb
 go_wp2_with fail
 go_ret
 exact ⟨rfl, E.out.bel⟩
end Go.Proofs.YtjonoedomgacaaaGreatDoor.Num
