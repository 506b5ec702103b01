/-
  Contracts of layer 9, the fifth part: Cut, Pad, and the document's.
-/
import Derived.Test.YtkeiipnclkaeiaaDoorUtfD
import Derived.Lib.Repeat
set_option linter.unusedVariables false
set_option linter.unusedSimpArgs false
namespace Go.Proofs.YtkeiipnclkaeiaaDoor
open Go.RowKit

theorem cutl_all (n : Nat) : ∀ l : List Nat, l.length ≤ n → cutl n l = l.length := by
  induction n with
  | zero => intro l h; rw [cutl]; omega
  | succ n ih =>
    intro l h
    rw [cutl]
    split
    · rename_i h0; rw [h0]; rfl
    · rename_i h0
      have h1 := stp_pos l
      have h2 := stp_le h0
      rw [ih _ (by rw [List.length_drop]; omega), List.length_drop]; omega
theorem cutl_min (n : Nat) (l : List Nat) : cutl n l = cutl (min n l.length) l := by
  rcases Nat.le_total n l.length with h | h
  · rw [Nat.min_eq_left h]
  · rw [Nat.min_eq_right h, cutl_all n l h, cutl_all _ l (Nat.le_refl _)]
theorem cutl_nil (n : Nat) : cutl n [] = 0 := by cases n with
  | zero => rfl
  | succ n => rw [cutl, if_pos rfl]

set_option maxHeartbeats 4000000 in
set_option maxRecDepth 100000 in
theorem cut_any (s : ByteArray) (n : Int) (w : World) (hT : Tabs9 w) (hs : s.size ≤ 1000000) (hn : Hid (n ≤ 9223372036854775807)) : Calls Tryd.prog 18 #[.string s, .int .i64 n] w (Ret9 w (.string (s.extract 0 (cutl n.toNat (bs9 s))))) := by
  have HT := Lib.hid hT
  clear hT
  obtain ⟨z, hz⟩ : ∃ z, cutl n.toNat (bs9 s) = z := ⟨_, rfl⟩
  have hzl : z ≤ s.size := by rw [← hz, ← bs9_len]; exact cutl_le _ _
  rw [hz]
  have HZ := Lib.hid hz
  clear hz
  obtain ⟨R, hR⟩ : ∃ R, s.extract 0 z = R := ⟨_, rfl⟩
  rw [hR]
  have HR := Lib.hid hR
  clear hR
  go_enter Tryd.func18, Tryd.ntmps18
  go_wp2_with fail
  go_loopw [1, 5] (fun mv iv wr => ∃ (m : Int) (i : Nat), mv = .int .i64 m ∧ iv = .int .i64 i ∧ i ≤ s.size ∧ Hid (m ≤ n) ∧ z = i + cutl m.toNat ((bs9 s).drop i) ∧ Below w.heap.size w wr) (fun _ iv _ => s.size - (intOf iv).toNat)
  case atStart => exact ⟨n, 0, rfl, rfl, Nat.zero_le _, Int.le_refl _, by rw [← HZ.out, List.drop_zero, Nat.zero_add], Below.refl _ _⟩
  case round =>
    obtain ⟨m, i, rfl, rfl, hi, hmn, hz, hb⟩ := hrel
    have HG := Lib.hid hz
    have HB := Lib.hid hb
    clear hz hb
    by_cases hm : 0 < m
    · have d1 : decide (0 < m) = true := decide_eq_true hm
      rcases Nat.lt_or_ge i s.size with hlt | hge
      · have hcd := Lib.hid (bs9_drop s i)
        obtain ⟨X, hX⟩ : ∃ X, s.extract i s.size = X := ⟨_, rfl⟩
        have hXs : X.size ≤ 1000000 := by rw [← hX]; simp only [ByteArray.size_extract]; omega
        have HXB : Hid (bs9 X = (bs9 s).drop i) := by show _ = _; rw [← hX]; exact hcd.out
        have hsl : ∀ w', (Instr.slice 9 (.string s) (some (.int .i64 (i : Int))) none none).run Tryd.prog w' = .ok (.string X) w' := sl_from hi hX
        obtain ⟨k, hk⟩ : ∃ k, stp ((bs9 s).drop i) = k := ⟨_, rfl⟩
        have hkl := stp_le (drop_ne hlt)
        have hk0 := stp_pos ((bs9 s).drop i)
        rw [hk, List.length_drop, bs9_len] at hkl
        rw [hk] at hk0
        have HK := Lib.hid hk
        have HNE := Lib.hid (drop_ne hlt)
        obtain ⟨q, hq⟩ : ∃ q : Nat, m.toNat = q + 1 := ⟨m.toNat - 1, by omega⟩
        have E : Hid (z = (i + k) + cutl (m - 1).toNat ((bs9 s).drop (i + k))) := by
          show _ = _
          rw [HG.out, hq, cutl, if_neg HNE.out, HK.out, List.drop_drop, show (m - 1).toNat = q by omega]; omega
        have hw : IntKind.i64.wrap (m - 1) = m - 1 := by rw [IntKind.wrap_i64]; have := hmn.out; have := hn.out; omega
        have HM1 : Hid (m - 1 ≤ n) := by show _ ≤ _; have := hmn.out; omega
        clear hk hX hcd hq hm hmn
        go_wp2_with fail
        refine (step_any X _ (HT.out.on HB.out) hXs).mono ?_; rintro e w1 ⟨rfl, hb⟩
        rw [HXB.out, HK.out]
        replace HB := Lib.hid (HB.out.trans (hb.mono HB.out.size))
        clear hb
        go_wp2_with fail
        go_roundw
        case rel => exact ⟨m - 1, i + k, by go_num, by go_num, by omega, HM1, E.out, HB.out⟩
        case measure => simp [intOf]; omega
      · obtain rfl : i = s.size := by omega
        have E : Hid (z = s.size) := by
          show _ = _
          rw [HG.out, List.drop_of_length_le (by rw [bs9_len]; exact Nat.le_refl _), cutl_nil]; rfl
        have hsl : ∀ w', (Instr.slice 9 (.string s) none (some (.int .i64 (s.size : Int))) none).run Tryd.prog w' = .ok (.string R) w' := sl_to (Nat.le_refl _) (by rw [← HR.out, E.out])
        clear hm hmn
        go_wp2_with fail
        go_ret
        exact ⟨rfl, HB.out⟩
    · have d1 : decide (0 < m) = false := decide_eq_false hm
      have E : Hid (z = i) := by
        show _ = _
        rw [HG.out, show m.toNat = 0 by omega]; rfl
      have hsl : ∀ w', (Instr.slice 9 (.string s) none (some (.int .i64 (i : Int))) none).run Tryd.prog w' = .ok (.string R) w' := sl_to hi (by rw [← HR.out, E.out])
      clear hm hmn
      go_wp2_with fail
      go_ret
      exact ⟨rfl, HB.out⟩

theorem min9 {P : Program} {n : Int} {s : Nat} (ts : Array TypeId) (ty : TypeId) (W : World) : (Builtin.min_ ts ty #[.int .i64 n, .int .i64 (s : Int)]).run P W = .ok (.int .i64 (min n (s : Int))) W := by
  rw [run_min_int2]
  have e : (if (s : Int) < n then (s : Int) else n) = min n (s : Int) := by split <;> omega
  rw [e]
theorem maxz9 {P : Program} {n : Int} (ts : Array TypeId) (ty : TypeId) (W : World) : (Builtin.max_ ts ty #[.int .i64 0, .int .i64 n]).run P W = .ok (.int .i64 ((n.toNat : Nat) : Int)) W := by
  rw [run_max_int2]
  have e : (if n > (0 : Int) then n else (0 : Int)) = ((n.toNat : Nat) : Int) := by split <;> omega
  rw [e]
theorem maxz9' {P : Program} {n : Int} (ts : Array TypeId) (ty : TypeId) (W : World) : (Builtin.max_ ts ty #[.int .i64 n, .int .i64 0]).run P W = .ok (.int .i64 ((n.toNat : Nat) : Int)) W := by
  rw [run_max_int2]
  have e : (if (0 : Int) > n then (0 : Int) else n) = ((n.toNat : Nat) : Int) := by split <;> omega
  rw [e]

set_option maxHeartbeats 4000000 in
set_option maxRecDepth 100000 in
theorem refcut_any (s : ByteArray) (n : Int) (w : World) (hs : s.size ≤ 1000000) : Calls Tryd.prog 20 #[.string s, .int .i64 n] w (Ret9 w (.string (s.extract 0 (cutl n.toNat (bs9 s))))) := by
  obtain ⟨z, hz⟩ : ∃ z, cutl n.toNat (bs9 s) = z := ⟨_, rfl⟩
  have hzl : z ≤ s.size := by rw [← hz, ← bs9_len]; exact cutl_le _ _
  rw [hz]
  obtain ⟨N, hN⟩ : ∃ N, min n (s.size : Int) = N := ⟨_, rfl⟩
  obtain ⟨K, hK⟩ : ∃ K, N.toNat = K := ⟨_, rfl⟩
  have hKs : K ≤ s.size := by omega
  have HZ : Hid (cutl K (bs9 s) = z) := by
    show _ = _
    rw [← hz, cutl_min n.toNat, bs9_len]
    congr 1; omega
  have hmn := fun (ts : Array TypeId) (ty : TypeId) (W : World) => min9 (P := Tryd.prog) (n := n) (s := s.size) ts ty W
  have hmx := fun (ts : Array TypeId) (ty : TypeId) (W : World) => maxz9 (P := Tryd.prog) (n := N) ts ty W
  rw [hN] at hmn
  rw [hK] at hmx
  clear hz hN hK
  obtain ⟨R, hR⟩ : ∃ R, s.extract 0 z = R := ⟨_, rfl⟩
  rw [hR]
  have HR := Lib.hid hR
  clear hR
  go_enter Tryd.func20, Tryd.ntmps20
  go_wp2_with fail
  go_loopw [5, 11] (fun iv jv wr => ∃ (i j : Nat), iv = .int .i64 i ∧ jv = .int .i64 j ∧ i ≤ s.size ∧ j ≤ K ∧ z = i + cutl (K - j) ((bs9 s).drop i) ∧ Below w.heap.size w wr) (fun _ jv _ => K - (intOf jv).toNat)
  case atStart => exact ⟨0, 0, rfl, rfl, Nat.zero_le _, Nat.zero_le _, by rw [← HZ.out, List.drop_zero, Nat.zero_add]; rfl, Below.refl _ _⟩
  case round =>
    obtain ⟨i, j, rfl, rfl, hi, hj, hz, hb⟩ := hrel
    have HG := Lib.hid hz
    have HB := Lib.hid hb
    clear hz hb
    rcases Nat.lt_or_ge j K with hjk | hjk
    · rcases Nat.lt_or_ge i s.size with hlt | hge
      · have hcd := Lib.hid (bs9_drop s i)
        obtain ⟨X, hX⟩ : ∃ X, s.extract i s.size = X := ⟨_, rfl⟩
        have hXs : X.size ≤ 1000000 := by rw [← hX]; simp only [ByteArray.size_extract]; omega
        have HXB : Hid (bs9 X = (bs9 s).drop i) := by show _ = _; rw [← hX]; exact hcd.out
        have hsl : ∀ w', (Instr.slice 9 (.string s) (some (.int .i64 (i : Int))) none none).run Tryd.prog w' = .ok (.string X) w' := sl_from hi hX
        obtain ⟨k, hk⟩ : ∃ k, stp ((bs9 s).drop i) = k := ⟨_, rfl⟩
        have hkl := stp_le (drop_ne hlt)
        have hk0 := stp_pos ((bs9 s).drop i)
        rw [hk, List.length_drop, bs9_len] at hkl
        rw [hk] at hk0
        have HK := Lib.hid hk
        have HNE := Lib.hid (drop_ne hlt)
        obtain ⟨q, hq⟩ : ∃ q, szl ((bs9 s).drop i) = q := ⟨_, rfl⟩
        have HQ := Lib.hid hq
        have hkq : max q 1 = k := by rw [← hk, ← hq]; rfl
        have hmx1 := fun (ts : Array TypeId) (ty : TypeId) (W : World) => max9' (P := Tryd.prog) (s := q) ts ty W
        rw [hkq] at hmx1
        have E : Hid (z = (i + k) + cutl (K - (j + 1)) ((bs9 s).drop (i + k))) := by
          show _ = _
          rw [HG.out, show K - j = (K - (j + 1)) + 1 by omega, cutl, if_neg HNE.out, HK.out, List.drop_drop]; omega
        clear hk hX hcd hq hkq
        go_wp2_with fail
        refine (refsize_any X _ hXs).mono ?_; rintro e w1 ⟨rfl, hb⟩
        rw [HXB.out, HQ.out]
        replace HB := Lib.hid (HB.out.trans (hb.mono HB.out.size))
        clear hb
        go_wp2_with fail
        go_roundw
        case rel => exact ⟨i + k, j + 1, by go_num, by go_num, by omega, by omega, E.out, HB.out⟩
        case measure => simp [intOf]; omega
      · obtain rfl : i = s.size := by omega
        have E : Hid (z = s.size) := by
          show _ = _
          rw [HG.out, List.drop_of_length_le (by rw [bs9_len]; exact Nat.le_refl _), cutl_nil]; rfl
        have hsl : ∀ w', (Instr.slice 9 (.string s) none (some (.int .i64 (s.size : Int))) none).run Tryd.prog w' = .ok (.string R) w' := sl_to (Nat.le_refl _) (by rw [← HR.out, E.out])
        go_wp2_with fail
        go_ret
        exact ⟨rfl, HB.out⟩
    · have E : Hid (z = i) := by
        show _ = _
        rw [HG.out, show K - j = 0 by omega]; rfl
      have hsl : ∀ w', (Instr.slice 9 (.string s) none (some (.int .i64 (i : Int))) none).run Tryd.prog w' = .ok (.string R) w' := sl_to hi (by rw [← HR.out, E.out])
      go_wp2_with fail
      go_ret
      exact ⟨rfl, HB.out⟩

/-- A text filled up with blanks. -/
def pad9 (l : List Nat) (n : Int) (r : Bool) : List Nat := if r then List.replicate ((min n 1000).toNat - cntl l) 32 ++ l else l ++ List.replicate ((min n 1000).toNat - cntl l) 32
theorem pad9_lt {l : List Nat} (h : ∀ c ∈ l, c < 256) (n : Int) (r : Bool) : ∀ c ∈ pad9 l n r, c < 256 := by
  have hr : ∀ (k : Nat), ∀ c ∈ List.replicate k 32, c < 256 := fun k c hc => by rw [(List.mem_replicate.1 hc).2]; omega
  unfold pad9
  split
  · exact fun c hc => (List.mem_append.1 hc).elim (hr _ c) (h c)
  · exact fun c hc => (List.mem_append.1 hc).elim (h c) (hr _ c)
theorem blanks_lt (k : Nat) : ∀ c ∈ List.replicate k 32, c < 256 := fun c hc => by rw [(List.mem_replicate.1 hc).2]; omega
theorem blank_bytes : ∀ k, (Lib.repeatL [32] k).map UInt8.toNat = List.replicate k 32
  | 0 => rfl
  | k + 1 => by rw [Lib.repeatL, List.map_append, blank_bytes k, List.replicate_succ]; rfl
theorem st9_size (l : List Nat) : (st9 l).size = l.length := by unfold st9; show (l.map UInt8.ofNat).toArray.size = _; simp
theorem repeat9 (k : Nat) (w : World) (hk : k ≤ 1000) : Calls Tryd.prog 27 #[.string ⟨#[32]⟩, .int .i64 (k : Int)] w (Ret9 w (.string (st9 (List.replicate k 32)))) := by
  have C := Tryd.strings_Repeat ⟨#[32]⟩ k w (by omega) (by show 1 * k ≤ _; omega)
  have e : (⟨(Lib.repeatL [32] k).toArray⟩ : ByteArray) = st9 (List.replicate k 32) := bs9_inj (by rw [bs9_st9 (blanks_lt k)]; exact blank_bytes k)
  rw [← e]
  exact C
theorem add9 {x y z : ByteArray} (h : bs9 x ++ bs9 y = bs9 z) (hl : x.size + y.size ≤ 9223372036854775807) (w : World) : (Op.stringOp .add x y).run Tryd.prog w = .ok (.string z) w := by
  rw [run_string_add_sum w _ _ hl, bs9_inj (s := x ++ y) (t := z) (by rw [bs9_append]; exact h)]

set_option maxHeartbeats 4000000 in
set_option maxRecDepth 100000 in
theorem pad_any (s : ByteArray) (n : Int) (r : Bool) (w : World) (hT : Tabs9 w) (hs : s.size ≤ 1000000) : Calls Tryd.prog 19 #[.string s, .int .i64 n, .bool r] w (Ret9 w (.string (st9 (pad9 (bs9 s) n r)))) := by
  have C := Lib.hid (count_any s w hT hs)
  clear hT
  obtain ⟨c, hc⟩ : ∃ c, cntl (bs9 s) = c := ⟨_, rfl⟩
  have hcs : c ≤ s.size := by rw [← hc, ← bs9_len]; exact cntl_len _
  rw [hc] at C
  have hmn := fun (ts : Array TypeId) (ty : TypeId) (W : World) => min9 (P := Tryd.prog) (n := n) (s := 1000) ts ty W
  obtain ⟨N, hN⟩ : ∃ N, min n (1000 : Int) = N := ⟨_, rfl⟩
  have hmx := fun (ts : Array TypeId) (ty : TypeId) (W : World) => maxz9' (P := Tryd.prog) (n := N) ts ty W
  obtain ⟨M, hM⟩ : ∃ M, N.toNat = M := ⟨_, rfl⟩
  have hMb : M ≤ 1000 := by omega
  have hmx2 := fun (ts : Array TypeId) (ty : TypeId) (W : World) => maxz9' (P := Tryd.prog) (n := (M : Int) - (c : Int)) ts ty W
  have ek : ((M : Int) - (c : Int)).toNat = M - c := by omega
  rw [show (((1000 : Nat) : Int)) = 1000 from rfl, hN] at hmn
  rw [hM] at hmx
  rw [ek] at hmx2
  obtain ⟨k, hk⟩ : ∃ k, M - c = k := ⟨_, rfl⟩
  have hkb : k ≤ 1000 := by omega
  rw [hk] at hmx2
  obtain ⟨B, hB⟩ : ∃ B, st9 (List.replicate k 32) = B := ⟨_, rfl⟩
  have hBs : B.size = k := by rw [← hB, st9_size, List.length_replicate]
  have hBb : bs9 B = List.replicate k 32 := by rw [← hB, bs9_st9 (blanks_lt k)]
  obtain ⟨R, hR⟩ : ∃ R, st9 (pad9 (bs9 s) n r) = R := ⟨_, rfl⟩
  have hRb : bs9 R = if r then bs9 B ++ bs9 s else bs9 s ++ bs9 B := by
    rw [← hR, bs9_st9 (pad9_lt (bs9_lt s) n r), hBb, ← hk, ← hM, ← hN, ← hc]
    unfold pad9
    rfl
  have CR := Lib.hid (fun w => repeat9 k w hkb)
  rw [hB] at CR
  rw [hR]
  have HRB := Lib.hid hRb
  clear hc hN hM ek hk hB hBb hR hRb
  cases r with
  | true =>
    have ha : ∀ w', (Op.stringOp .add B s).run Tryd.prog w' = .ok (.string R) w' := fun w' => add9 (by rw [HRB.out]; rfl) (by omega) w'
    go_enter Tryd.func19, Tryd.ntmps19
    go_wp2_with fail
    refine C.out.mono ?_; rintro e w1 ⟨rfl, hb1⟩
    go_wp2_with fail
    refine (CR.out _).mono ?_; rintro e w2 ⟨rfl, hb2⟩
    go_wp2_with fail
    go_ret
    exact ⟨rfl, hb1.trans (hb2.mono hb1.size)⟩
  | false =>
    have ha : ∀ w', (Op.stringOp .add s B).run Tryd.prog w' = .ok (.string R) w' := fun w' => add9 (by rw [HRB.out]; rfl) (by omega) w'
    go_enter Tryd.func19, Tryd.ntmps19
    go_wp2_with fail
    refine C.out.mono ?_; rintro e w1 ⟨rfl, hb1⟩
    go_wp2_with fail
    refine (CR.out _).mono ?_; rintro e w2 ⟨rfl, hb2⟩
    go_wp2_with fail
    go_ret
    exact ⟨rfl, hb1.trans (hb2.mono hb1.size)⟩

end Go.Proofs.YtkeiipnclkaeiaaDoor
