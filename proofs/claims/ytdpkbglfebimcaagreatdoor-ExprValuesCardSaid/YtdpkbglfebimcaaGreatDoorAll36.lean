/- What the proof needs, texts LexT, LexU, in one text. -/
import Derived.Test.YtdpkbglfebimcaaGreatDoorAll32
import Derived.Test.YtdpkbglfebimcaaGreatDoorAll31
import Derived.Test.YtdpkbglfebimcaaGreatDoorAll35
import Derived.Test.YtdpkbglfebimcaaGreatDoorAll27
import Derived.Test.YtdpkbglfebimcaaGreatDoorAll28
set_option linter.unusedVariables false
set_option linter.unusedSimpArgs false
namespace Go.Proofs.YtdpkbglfebimcaaGreatDoor
open Go.RowKit
/-- What is asked of a world: the tables hold what the text lays. -/
def Ok12 (w : World) : Prop := Dat.Tabs w ∧ MaxLen w ∧ Roots w
theorem okw12 : Okw Ok12 := fun h hb => ⟨h.1.on hb, h.2.1.on hb, h.2.2.on hb⟩
def D12 (l : List Nat) : Bool := l.all (fun c => decide (c < 256)) && Dat.prOk (st9 l)
def N12 (l : List Nat) : Bool := (Num.rst l != []) && Num.frmB (Num.rst l)
theorem d12_is (s : ByteArray) : D12 (bs9 s) = Dat.prOk s := by
  unfold D12
  rw [st9_bs9, List.all_eq_true.2 (fun c hc => decide_eq_true (bs9_lt s c hc)), Bool.true_and]
theorem n12_yes {l : List Nat} (h : Num.rst l ≠ []) (hf : Num.frmB (Num.rst l) = true) : N12 l = true := by
  unfold N12; rw [hf, Bool.and_true, bne_iff_ne]; exact h
theorem n12_no {l : List Nat} (h : Num.rst l = [] ∨ Num.frmB (Num.rst l) = false) : N12 l = false := by
  unfold N12
  rcases h with h | h
  · rw [h]; rfl
  · rw [h, Bool.and_false]
theorem o08 : O08 D12 Ok12 := fun s w hok hs => by
  cases hp : Dat.prOk s with
  | true =>
    have hp2 := hp
    unfold Dat.prOk at hp2
    rw [Bool.and_eq_true] at hp2
    exact (Dat.parse_is hok.1 hp2.1 rfl rfl rfl hp2.2).mono fun e w' h => ⟨_, _, _, 0, h.1, by rw [d12_is, hp]; rfl, h.2⟩
  | false => exact (Dat.parse_no hok.1 hs hp).mono fun e w' h => ⟨0, 0, 0, 3, h.1, by rw [d12_is, hp]; rfl, h.2⟩
theorem read12 {w : World} {s : ByteArray} {e : Ending} {w' : World} (h : Num.RetRead w (Num.codes s) e w') : ∃ (b : Bool) (A : Option Addr) (n c : Nat) (k : Int) (z : Nat), e = .returned (.tuple #[.agg #[.bool b, .slice A n c, .int .i64 k], .int .i64 (z : Int)]) ∧ N12 (bs9 s) = decide (z = 0) ∧ Below w.heap.size w w' := by
  rcases h with ⟨h1, h2⟩ | ⟨h1, h2, h3⟩ | ⟨h1, h2, A, n, c, h3, _, h4⟩
  · exact ⟨false, none, 0, 0, 0, 2, h2.1, n12_no (.inl h1), h2.2⟩
  · exact ⟨false, none, 0, 0, 0, 3, h3.1, n12_no (.inr h2), h3.2⟩
  · exact ⟨_, A, n, c, _, 0, h3, n12_yes h1 h2, h4⟩
theorem o07 : O07 N12 Ok12 := fun s w hok hs => (Num.read_any s w hs hok.2.1).mono fun _ _ h => read12 h
theorem o11 : O11 Ok12 := fun _ _ hok hs => account_is rfl (by omega) hok.2.1 hok.2.2
theorem nm8_digits {l : List UInt8} (h : 1 ≤ Dat.nm8 l) : ∀ u ∈ l, 48 ≤ u.toNat := by
  unfold Dat.nm8 at h
  split at h
  · rename_i ha
    intro u hu
    have := List.all_eq_true.1 ha u hu
    unfold Dat.isd8 at this
    rw [Bool.and_eq_true, decide_eq_true_iff] at this
    exact this.1
  · omega
theorem day_bytes {s : ByteArray} (h : Dat.prOk s = true) : (bs9 s).length = 10 ∧ 32 ∉ bs9 s ∧ ((bs9 s)[4]? = some 45 ∨ (bs9 s)[4]? = some 47) := by
  unfold Dat.prOk at h
  rw [Bool.and_eq_true] at h
  obtain ⟨hf, hr⟩ := h
  have hz : s.size = 10 := by
    rcases Nat.decEq s.size 10 with h | h
    · unfold Dat.frm8 at hf; rw [dif_neg h] at hf; cases hf
    · exact h
  obtain ⟨h47, h4⟩ := (Dat.frm8_iff hz).1 hf
  obtain ⟨y1, _, m1, _, d1, _⟩ := Dat.ok8_iff.1 hr
  have b4 := bs9_at s 4 (by omega)
  have b7 := bs9_at s 7 (by omega)
  have part : ∀ {a b j : Nat}, 1 ≤ Dat.nm8 (s.extract a b).data.toList → a ≤ j → j < b → (bs9 s)[j]? ≠ some 32 := fun {a b j} h1 ha hb e => by
    have e2 : (bs9 (s.extract a b))[j - a]? = some 32 := by
      rw [bs9_extract, List.getElem?_take_of_lt (by omega), List.getElem?_drop, show a + (j - a) = j by omega]; exact e
    obtain ⟨u, hu, hu2⟩ := List.mem_map.1 (List.mem_of_getElem? e2)
    have := nm8_digits h1 u hu
    omega
  refine ⟨by rw [bs9_len]; exact hz, fun h32 => ?_, ?_⟩
  · obtain ⟨j, hj⟩ := List.mem_iff_getElem?.1 h32
    have hj10 : j < 10 := by
      have := (List.getElem?_eq_some_iff.1 hj).1
      rwa [bs9_len, hz] at this
    rcases Nat.lt_or_ge j 4 with h | h
    · exact part (a := 0) (b := 4) y1 (Nat.zero_le _) h hj
    · rcases Nat.lt_or_ge j 5 with g | g
      · obtain rfl : j = 4 := by omega
        rw [b4] at hj
        have := Option.some.inj hj
        omega
      · rcases Nat.lt_or_ge j 7 with k | k
        · exact part (a := 5) (b := 7) m1 g k hj
        · rcases Nat.lt_or_ge j 8 with q | q
          · obtain rfl : j = 7 := by omega
            rw [b7] at hj
            have := Option.some.inj hj
            omega
          · exact part (a := 8) (b := 10) d1 q hj10 hj
  · rw [b4]
    rcases h4 with h4 | h4
    · exact .inl (by rw [h4])
    · exact .inr (by rw [h4])
theorem dayok12 : DayOk D12 := fun y h => by
  unfold D12 at h
  rw [Bool.and_eq_true, List.all_eq_true] at h
  have hb := bs9_st9 (l := y) (fun c hc => of_decide_eq_true (h.1 c hc))
  have := day_bytes h.2
  rwa [hb] at this
end Go.Proofs.YtdpkbglfebimcaaGreatDoor
namespace Go.Proofs.YtdpkbglfebimcaaGreatDoor
/-- These are a line's words, wherever they begin. -/
def Wds (l : List Nat) (us : List (Nat × List Nat)) : Prop := ∀ a, ∃ ts, WD D12 N12 a l = .inr ts ∧ ts.map (fun t => (t.1, t.2.1)) = us
theorem wds_nil : Wds [] [] := fun a => ⟨[], WD_stop (.inl rfl), rfl⟩
theorem wds_of {l m : List Nat} {us : List (Nat × List Nat)} {k n : Nat} {x : List Nat} (h0 : indl l = 0) (hs : ¬ Stop12 l) (hn : nxt D12 N12 l = .inr (k, x, n)) (hm : l.drop n = m) (h : Wds m us) : Wds l ((k, x) :: us) := fun a => by
  obtain ⟨ts, h1, h2⟩ := h (a + 0 + n)
  have hd : l.drop (indl l) = l := by rw [h0, List.drop_zero]
  refine ⟨(k, x, a + 0 + 1) :: ts, ?_, by rw [List.map_cons, h2]⟩
  have := WD_ok (a := a) dayok12 (by rw [hd]; exact hs) (by rw [hd]; exact hn)
  rw [this, hd, hm, h0, h1]; rfl
theorem wds_blank {l : List Nat} {us : List (Nat × List Nat)} (h : Wds l us) : Wds (32 :: l) us := fun a => by
  obtain ⟨ts, h1, h2⟩ := h (a + 1)
  refine ⟨ts, ?_, h2⟩
  rw [WD_indent dayok12] at h1 ⊢
  have e : indl (32 :: l) = indl l + 1 := by rw [indl, if_pos (.inl rfl)]
  rw [e, List.drop_succ_cons, ← h1]
  congr 1
  omega
/-- A sign that stands alone. -/
theorem wds_sign {c : Nat} (hc : c = 40 ∨ c = 41 ∨ c = 42 ∨ c = 43 ∨ c = 45 ∨ c = 47) {l : List Nat} {us : List (Nat × List Nat)} (h : Wds l us) : Wds (c :: l) ((10, [c]) :: us) := by
  have hm : mrk (c :: l) = 1 := mrk_single (by rcases hc with rfl | rfl | rfl | rfl | rfl | rfl <;> rfl) (.inl (by rcases hc with rfl | rfl | rfl | rfl | rfl | rfl <;> rfl))
  refine wds_of (n := 1) ?_ ?_ ?_ rfl h
  · rw [indl, if_neg (by omega)]
  · rintro (e | e)
    · cases e
    · have := Option.some.inj e; omega
  · rw [(nxt_of D12 N12 c l).2.2.2.2.2 (by omega) (by omega) (by rcases hc with rfl | rfl | rfl | rfl | rfl | rfl <;> rfl) (by rcases hc with rfl | rfl | rfl | rfl | rfl | rfl <;> rfl) (by rcases hc with rfl | rfl | rfl | rfl | rfl | rfl <;> rfl), hm]
    rfl
theorem wds_usd : Wds [85, 83, 68] [(3, [85, 83, 68])] := wds_of (n := 3) rfl (by rintro (e | e); cases e; cases e) rfl rfl wds_nil
/-- A number's digits. -/
def bod (a s : Nat) : List Nat := Num.txt (a / 10 ^ s) ++ Num.beh s a
theorem txtD_bod (i : Int) (s : Nat) : Num.txtD i s = Num.sgT i ++ bod i.natAbs s := rfl
theorem bod_good (a s : Nat) : N12 (bod a s) = true := by
  obtain ⟨h1, h2, h3, -, -⟩ := Num.told (i := (a : Int)) (s := s) (x := Num.txt (a / 10 ^ s)) (.inl rfl)
  have e0 : Num.sgT (a : Int) = [] := by unfold Num.sgT; rw [if_neg (by omega)]
  rw [e0] at h1 h2
  rw [List.nil_append, Int.natAbs_natCast] at h1 h2
  rw [Int.natAbs_natCast] at h3
  exact n12_yes h2 (by unfold bod; rw [h1]; exact h3)
theorem digs_dg {l : List Nat} (h : Num.digs l) : ∀ c ∈ l, dgB c = true := fun c hc => by
  have := h c hc
  unfold dgB; rw [Bool.and_eq_true, decide_eq_true_iff, decide_eq_true_iff]; exact this
theorem bod_bytes (a s : Nat) : ∀ c ∈ bod a s, dgB c = true ∨ c = 46 := fun c hc => by
  unfold bod at hc
  rcases List.mem_append.1 hc with h | h
  · exact .inl (digs_dg (Num.digs_txt _) c h)
  · unfold Num.beh at h
    split at h
    · cases h
    · rcases List.mem_cons.1 h with h | h
      · exact .inr h
      · exact .inl (digs_dg (Num.digs_pad _ _) c h)
theorem bod_head (a s : Nat) : ∃ c t, bod a s = c :: t ∧ dgB c = true := by
  have h := digs_dg (Num.digs_txt (a / 10 ^ s))
  have hne := Num.txt_ne (a / 10 ^ s)
  unfold bod
  cases e : Num.txt (a / 10 ^ s) with
  | nil => exact absurd e hne
  | cons c t => exact ⟨c, t ++ Num.beh s a, rfl, h c (by rw [e]; exact List.mem_cons_self)⟩
/-- What may follow a number's digits. -/
def Fol (r : List Nat) : Prop := (∀ c, r.head? = some c → dgB c = false ∧ c ≠ 44 ∧ c ≠ 46) ∧ (r = [] ∨ 32 ∈ r.take 4 ∨ ∀ j, j ≤ 3 → r[j]? = some 41)
theorem run_all {t r : List Nat} (h : ∀ c ∈ t, dgB c = true) (hr : ∀ c, r.head? = some c → dgB c = false) : runl dgB (t ++ r) = t.length := runl_stop h hr
theorem nmb_bod (a s : Nat) {r : List Nat} (hr : Fol r) : nmb (bod a s ++ r) = (bod a s).length := by
  have ht := digs_dg (Num.digs_txt (a / 10 ^ s))
  have hne := Num.txt_ne (a / 10 ^ s)
  unfold bod
  generalize Num.txt (a / 10 ^ s) = t at ht hne
  unfold Num.beh
  split
  · rw [List.append_nil]
    have e1 : runl dgB (t ++ r) = t.length := run_all ht fun c hc => (hr.1 c hc).1
    have e2 : nmb1 (t ++ r) = t.length := by
      rw [nmb1_digits, e1, List.drop_left, nmb1_off (fun c hc => ⟨(hr.1 c hc).1, (hr.1 c hc).2.1⟩)]; rfl
    unfold nmb
    rw [e2, List.drop_left]
    have e3 : frac r = 0 := by
      unfold frac
      rw [if_neg]
      rintro ⟨h1, -⟩
      exact (hr.1 46 h1).2.2 rfl
    rw [e3, Nat.add_zero]
  · rename_i hs
    have hp := digs_dg (Num.digs_pad s a)
    have hl := Num.pad_len s a
    generalize Num.pad s a = p at hp hl
    have e0 : (t ++ 46 :: p) ++ r = t ++ (46 :: (p ++ r)) := by rw [List.append_assoc]; rfl
    rw [e0]
    have e1 : runl dgB (t ++ 46 :: (p ++ r)) = t.length := run_all ht fun c hc => by obtain rfl := Option.some.inj hc; rfl
    have e2 : nmb1 (t ++ 46 :: (p ++ r)) = t.length := by
      rw [nmb1_digits, e1, List.drop_left, nmb1_off (fun c hc => by obtain rfl := Option.some.inj hc; exact ⟨rfl, by decide⟩)]; rfl
    unfold nmb
    rw [e2, List.drop_left]
    have e3 : frac (46 :: (p ++ r)) = 1 + p.length := by
      have e4 : runl dgB (p ++ r) = p.length := run_all hp fun c hc => (hr.1 c hc).1
      unfold frac
      rw [if_pos]
      · show 1 + runl dgB (p ++ r) = _
        rw [e4]
      · refine ⟨rfl, ?_⟩
        show (p ++ r).head?.any dgB = true
        cases p with
        | nil => exact absurd hl.symm hs
        | cons c u => exact hp c List.mem_cons_self
    rw [e3, List.length_append, List.length_cons]; omega
/-- It is no day. -/
theorem bod_noday (a s : Nat) {r : List Nat} (hr : Fol r) : ¬ (10 ≤ (bod a s ++ r).length ∧ D12 ((bod a s ++ r).take 10) = true ∧ ((bod a s ++ r)[10]?).any dgB = false) := by
  rintro ⟨h1, h2, -⟩
  obtain ⟨g1, g2, g3⟩ := dayok12 _ h2
  have hb := bod_bytes a s
  obtain ⟨c0, t0, hc0, -⟩ := bod_head a s
  have hlen : 1 ≤ (bod a s).length := by rw [hc0]; simp
  rw [List.getElem?_take_of_lt (by omega)] at g3
  rcases Nat.lt_or_ge 4 (bod a s).length with h | h
  · rw [List.getElem?_append_left h] at g3
    rcases g3 with g3 | g3
    · rcases hb _ (List.mem_of_getElem? g3) with q | q
      · cases q
      · cases q
    · rcases hb _ (List.mem_of_getElem? g3) with q | q
      · cases q
      · cases q
  · rcases hr.2 with e | e | e
    · rw [e, List.append_nil] at h1; omega
    · refine g2 ?_
      rw [List.take_append]
      exact List.mem_append_right _ ((List.take_subset_take_left r (by omega : 4 ≤ 10 - (bod a s).length)) e)
    · rw [List.getElem?_append_right h, e _ (by omega)] at g3
      rcases g3 with g3 | g3 <;> cases g3
/-- A number's digits, and what follows. -/
theorem wds_num (a s : Nat) {r : List Nat} (hr : Fol r) {us : List (Nat × List Nat)} (h : Wds r us) : Wds (bod a s ++ r) ((4, bod a s) :: us) := by
  have hn := nmb_bod a s hr
  have hd := bod_noday a s hr
  have hg := bod_good a s
  obtain ⟨c, t, hc, hcd⟩ := bod_head a s
  have hc2 : 48 ≤ c ∧ c ≤ 57 := by unfold dgB at hcd; rw [Bool.and_eq_true, decide_eq_true_iff, decide_eq_true_iff] at hcd; exact hcd
  have hx : nxt D12 N12 (bod a s ++ r) = .inr (4, bod a s, (bod a s).length) := by
    have e : nxt D12 N12 (bod a s ++ r) = num12 D12 N12 (bod a s ++ r) := by
      rw [hc, List.cons_append]; exact (nxt_of D12 N12 c (t ++ r)).2.2.1 hcd
    rw [e]
    unfold num12
    rw [if_neg hd, hn, List.take_left, hg]; rfl
  refine wds_of ?_ ?_ hx (List.drop_left) h
  · rw [hc, List.cons_append, indl, if_neg (by omega)]
  · rw [hc]
    rintro (e | e)
    · cases e
    · have := Option.some.inj e; omega
/-- A decimal's words. -/
def tT (i : Int) (s : Nat) : List (Nat × List Nat) := if i < 0 then [(10, [45]), (4, bod i.natAbs s)] else [(4, bod i.natAbs s)]
theorem wds_dec (i : Int) (s : Nat) {r : List Nat} (hr : Fol r) {us : List (Nat × List Nat)} (h : Wds r us) : Wds (Num.txtD i s ++ r) (tT i s ++ us) := by
  rw [txtD_bod]
  unfold Num.sgT tT
  split
  · exact wds_sign (.inr (.inr (.inr (.inr (.inl rfl))))) (wds_num _ s hr h)
  · exact wds_num _ s hr h
theorem fol_blank (r : List Nat) : Fol (32 :: r) := ⟨fun c hc => by obtain rfl := Option.some.inj hc; exact ⟨rfl, by decide, by decide⟩, .inr (.inl (by simp))⟩
theorem fol_nil : Fol [] := ⟨fun c hc => (by cases hc), .inl rfl⟩
theorem fol_shut (r : List Nat) : Fol (41 :: 32 :: r) := ⟨fun c hc => by obtain rfl := Option.some.inj hc; exact ⟨rfl, by decide, by decide⟩, .inr (.inl (by simp))⟩
theorem fol_shuts (r : List Nat) : Fol (41 :: 41 :: 32 :: r) := ⟨fun c hc => by obtain rfl := Option.some.inj hc; exact ⟨rfl, by decide, by decide⟩, .inr (.inl (by simp))⟩
/-- The texts of the laws. -/
theorem wds_mul (i j l : Int) (s t u : Nat) : Wds (Num.txtD i s ++ ([32, 43, 32] ++ (Num.txtD j t ++ ([32, 42, 32] ++ (Num.txtD l u ++ []))))) (tT i s ++ ((10, [43]) :: (tT j t ++ ((10, [42]) :: (tT l u ++ []))))) :=
  wds_dec i s (fol_blank _) (wds_blank (wds_sign (by decide) (wds_blank (wds_dec j t (fol_blank _) (wds_blank (wds_sign (by decide) (wds_blank (wds_dec l u fol_nil wds_nil))))))))
theorem wds_par (i j l : Int) (s t u : Nat) : Wds ([40] ++ (Num.txtD i s ++ ([32, 43, 32] ++ (Num.txtD j t ++ ([41, 32, 42, 32] ++ (Num.txtD l u ++ [])))))) ((10, [40]) :: (tT i s ++ ((10, [43]) :: (tT j t ++ ((10, [41]) :: (10, [42]) :: (tT l u ++ [])))))) :=
  wds_sign (by decide) (wds_dec i s (fol_blank _) (wds_blank (wds_sign (by decide) (wds_blank (wds_dec j t (fol_shut _) (wds_sign (by decide) (wds_blank (wds_sign (by decide) (wds_blank (wds_dec l u fol_nil wds_nil))))))))))
theorem wds_paru (i j l : Int) (s t u : Nat) : Wds ([40] ++ (Num.txtD i s ++ ([32, 43, 32] ++ (Num.txtD j t ++ ([41, 32, 42, 32] ++ (Num.txtD l u ++ [32, 85, 83, 68])))))) ((10, [40]) :: (tT i s ++ ((10, [43]) :: (tT j t ++ ((10, [41]) :: (10, [42]) :: (tT l u ++ [(3, [85, 83, 68])])))))) :=
  wds_sign (by decide) (wds_dec i s (fol_blank _) (wds_blank (wds_sign (by decide) (wds_blank (wds_dec j t (fol_shut _) (wds_sign (by decide) (wds_blank (wds_sign (by decide) (wds_blank (wds_dec l u (fol_blank _) (wds_blank wds_usd)))))))))))
theorem wds_sub (i j l : Int) (s t u : Nat) : Wds ([40, 40] ++ (Num.txtD i s ++ ([41, 41, 32, 45, 32] ++ (Num.txtD j t ++ ([32, 45, 32] ++ (Num.txtD l u ++ [])))))) ((10, [40]) :: (10, [40]) :: (tT i s ++ ((10, [41]) :: (10, [41]) :: (10, [45]) :: (tT j t ++ ((10, [45]) :: (tT l u ++ [])))))) :=
  wds_sign (by decide) (wds_sign (by decide) (wds_dec i s (fol_shuts _) (wds_sign (by decide) (wds_sign (by decide) (wds_blank (wds_sign (by decide) (wds_blank (wds_dec j t (fol_blank _) (wds_blank (wds_sign (by decide) (wds_blank (wds_dec l u fol_nil wds_nil))))))))))))
end Go.Proofs.YtdpkbglfebimcaaGreatDoor
