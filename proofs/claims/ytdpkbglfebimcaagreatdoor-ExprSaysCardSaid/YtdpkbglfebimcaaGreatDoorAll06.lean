/- What the proof needs, texts MulE, MulH, MulR, MulS, MulT, in one text. -/
import Derived.Test.YtdpkbglfebimcaaGreatDoorAll05
import Derived.Lib.BitFns
import Derived.Lib.Small
import Derived.Lib.Walk
set_option linter.unusedVariables false
set_option linter.unusedSimpArgs false
set_option maxRecDepth 100000
set_option maxHeartbeats 32000000
namespace Go.Proofs.YtdpkbglfebimcaaGreatDoor.Num
open Go.RowKit
theorem dg_shift {m low : Nat} (hm : 0 < m) : dg (1000000000 ^ low * m) = List.replicate low 0 ++ dg m := by
 have e : val (List.replicate low 0 ++ dg m) = 1000000000 ^ low * m := by
  rw [val_append, val_zeros, val_dg, List.length_replicate, Nat.zero_add]
 rw [← e]
 refine dg_val (limbs_append.2 ⟨zeros_limbs _, limbs_dg m⟩) ?_
 rw [List.getLast?_append]
 intro h
 cases hd : (dg m).getLast? with
 | none => rw [List.getLast?_eq_none_iff, dg_eq_nil] at hd; omega
 | some v =>
  rw [hd] at h
  exact dg_last m (by rw [hd]; exact h)
theorem shift_num (a n : Nat) : a * 10 ^ n = 1000000000 ^ (n / 9) * (a * 10 ^ (n % 9)) := by
 rw [pow9, Nat.mul_left_comm, ← Nat.pow_add]
 congr 2
 omega
theorem shift_splice (low : Nat) (xs : List Nat) : splice (List.replicate (low + xs.length) 0) low xs = List.replicate low 0 ++ xs := by
 simp [splice, List.drop_replicate, List.take_replicate]
theorem ten_le {j : Nat} (hj : j ≤ 8) : 10 ^ j ≤ 100000000 := Nat.le_trans (Nat.pow_le_pow_right (by omega) hj) (by decide)
theorem shift_any (A : Option Addr) (n c a k : Nat) (w : World) (h : Num w w.heap.size A n c a) (hn : n ≤ 1000000) (hk : k ≤ 1000000) :
  Calls Tryz.prog 88 #[.slice A n c, .int .i64 k] w (RetSub w (a * 10 ^ k)) := by
 obtain ⟨i0, hi, hz0, hz1, hz2⟩ := info_parts info_limb
 have H := Lib.hid h
 clear h
 go_enter Tryz.func88, Tryz.ntmps88
 go_wp2
 go_loop [6, 14] (fun tv iv => ∃ j t : Nat, j ≤ k % 9 ∧ iv = .int .i64 j ∧ tv = .int .u32 t ∧ t ≤ 100000000 ∧ Hid (t = 10 ^ j)) (fun _ iv => k % 9 - (intOf iv).toNat)
 case atStart => exact ⟨0, 1, Nat.zero_le _, rfl, rfl, by omega, rfl⟩
 case round =>
  obtain ⟨j, t, hj, rfl, rfl, ht, HT⟩ := hrel
  rcases Nat.lt_or_ge j (k % 9) with hjk | hjk
  ·have ht2 : t ≤ 10000000 := by have := HT.out; rw [this]; exact Nat.le_trans (Nat.pow_le_pow_right (by omega) (show j ≤ 7 by omega)) (by decide)
   go_wp2
   go_round
   case rel => exact ⟨j + 1, t * 10, by omega, by go_num, by go_num, by omega, by show _ = _; rw [Nat.pow_succ, HT.out]⟩
   case measure => simp [intOf]; omega
  ·obtain rfl : j = k % 9 := by omega
   have HP : Hid (t ≤ 1000000000) := by show _ ≤ _; omega
   go_wp2_with fail
   refine (times_is (m := a * t) H.out (by omega) (by omega) rfl).mono ?_; rintro e w1 ⟨A1, n1, c1, rfl, h1, hb1⟩
   have hm1 := h1.room
   have hc1 := h1.cap
   unfold maxLen at hm1
   have HV : Hid (a * 10 ^ k = 1000000000 ^ (k / 9) * (a * t)) := by show _ = _; rw [HT.out]; exact shift_num a k
   have hn1 : n1 ≤ n + 1 := by
    have := dg_len_mul a t
    have h2 : (dg t).length ≤ 1 := dg_len_le (by omega)
    have h3 := h1.len
    have h4 := H.out.len
    omega
   have H1 := Lib.hid h1
   have HB1 := Lib.hid hb1
   clear h1 hb1 HT hjk hj ht
   rcases Nat.eq_zero_or_pos n1 with h0 | h0
   ·subst h0
    have hz : a * t = 0 := dg_eq_nil.1 (List.eq_nil_of_length_eq_zero H1.out.len)
    have HZ : Hid (a * 10 ^ k = 0) := by show _ = _; rw [HV.out, hz, Nat.mul_zero]
    clear hz
    go_wp2_with fail
    go_ret2
    exact ⟨_, _, _, rfl, by rw [HZ.out, Num, dg_zero]; exact Lim.nil, HB1.out⟩
   ·have hpos : 0 < a * t := by
     rcases Nat.eq_zero_or_pos (a * t) with h2 | h2
     ·have := H1.out.len; rw [h2, dg_zero] at this; simp at this; omega
     ·exact h2
    have HS : Hid (splice (List.replicate (k / 9 + n1) 0) (k / 9) (dg (a * t)) = dg (a * 10 ^ k)) := by
     show _ = _
     rw [HV.out, dg_shift hpos, ← H1.out.len]
     exact shift_splice _ _
    clear hpos
    have hk9 : k / 9 ≤ 1000000 := by omega
    have hk0 : 0 ≤ ((k : Int) / 9) := by omega
    have hk1 : ((k : Int) / 9) ≤ 1000000 := by omega
    ·go_wp2_with (first | (at_make; go_must (refine wpList_make_full _ rfl _ _ 24 rfl w1.heap.size 103 i0 (.int .u32 0) 1 Tryz.underlying24 hi hz0 hz1 _ _ _ _ (k / 9 + n1) (by first | rfl | (exact congrArg (Value.int IntKind.i64) (by omega))) (by first | rfl | (exact congrArg (Value.int IntKind.i64) (by omega))) (by omega) (by omega) (by rw [hz2]; omega) (by unfold maxLen; omega) (Nat.le_refl _) ?_; intro w2 hown1 hgr1; have O2 : Hid (Own w2 w1.heap.size (List.replicate (k / 9 + n1) 0)) := Own.of_made hown1; have HB2 : Hid (Below w1.heap.size w1 w2) := (Below.refl _ _).grown hgr1 (Nat.le_refl _) (fun k hk => by cases hk); clear hown1 hgr1)) | ((with_reducible show wpList _ _ _ (⟨some 36, _, _, _, _, _⟩ :: _) _ _); go_must (refine wpList_copy_splice rfl (.tmp 34) (.tmp 35) 24 24 rfl 103 Tryz.underlying24 info_one _ _ _ _ _ _ rfl rfl w1.heap.size (k / 9) (vals (List.replicate (k / 9 + n1) 0)) 103 O2.out (vals (dg (a * t))) (copy_ok (L := List.replicate (k / 9 + n1) 0) (off := k / 9) H1.out (show n1 ≤ k / 9 + n1 - k / 9 by omega) (by rw [List.length_replicate]; omega)).1 (fun hp => ⟨rfl, lim_src (H1.out.below HB2.out) hp⟩) (copy_ok (L := List.replicate (k / 9 + n1) 0) (off := k / 9) H1.out (show n1 ≤ k / 9 + n1 - k / 9 by omega) (by rw [List.length_replicate]; omega)).2 (vals_one _) w1.heap.size w1 HB2.out (Nat.le_refl _) ?_; intro w3 hg2 hb2; have O3 := own_spliced hg2; have HB3 := Lib.hid hb2; clear hg2 hb2)))
     go_ret2
     have O4 := O3.out
     rw [HS.out] at O4
     have hl4 : (dg (a * 10 ^ k)).length = k / 9 + n1 := by rw [← HS.out, length_splice _ _ _ (by rw [H1.out.len]; simp), List.length_replicate]
     exact ⟨_, _, _, rfl, own_lim_is O4 (limbs_dg _) hl4 (by omega), HB1.out.trans (HB3.out.mono HB1.out.size)⟩
theorem shift_is {A : Option Addr} {n c a k m : Nat} {v : Int} {w : World} (h : Num w w.heap.size A n c a) (hn : n ≤ 1000000) (hk : k ≤ 1000000) (hv : v = k) (hm : a * 10 ^ k = m) :
  Calls Tryz.prog 88 #[.slice A n c, .int .i64 v] w (RetSub w m) := by
 subst hm; subst hv; exact shift_any A n c a k w h hn hk
def p1 : Nat := 999999999
def p2 : Nat := 999999998000000001
def p3 : Nat := 18446744073709551616
def p4 : Nat := 10000000000
def p5 : Nat := 7000
def valsI (xs : List Nat) : List Value := xs.map (fun (x : Nat) => Value.int .i64 (x : Int))
theorem valsI_get {xs : List Nat} {j : Nat} (h : j < xs.length) : (valsI xs)[j]? = some (.int .i64 (gd xs j : Nat)) := by
 unfold valsI; rw [List.getElem?_map, gd_of_lt h]; rfl
theorem valsI_len (xs : List Nat) : (valsI xs).length = xs.length := by simp [valsI]
theorem valsI_one (xs : List Nat) : ∀ u ∈ valsI xs, u.oneCell' = true := by
 intro u hu
 obtain ⟨x, _, rfl⟩ := List.mem_map.1 hu
 rfl
theorem valsI_append (xs ys : List Nat) : valsI (xs ++ ys) = valsI xs ++ valsI ys := by simp [valsI]
theorem valsI_set (xs : List Nat) (i x : Nat) : valsI (xs.set i x) = (valsI xs).set i (.int .i64 (x : Int)) := by simp [valsI, List.map_set]
structure Dig (w : World) (B : Nat) (A : Option Addr) (n c : Nat) (xs : List Nat) : Prop where
 len : xs.length = n
 cap : n ≤ c
 room : c ≤ maxLen
 row : Row w B A (valsI xs)
 addr : A = none → c = 0
section
variable {w w' : World} {B n c : Nat} {A : Option Addr} {xs : List Nat}
theorem Dig.keep (h : Dig w B A n c xs) (hk : ∀ p : Addr, p.block < B → w'.cell? p = w.cell? p) : Dig w' B A n c xs := ⟨h.len, h.cap, h.room, h.row.keep hk, h.addr⟩
theorem Dig.more {B' : Nat} (h : Dig w B A n c xs) (hB : B ≤ B') : Dig w B' A n c xs := ⟨h.len, h.cap, h.room, h.row.more hB, h.addr⟩
theorem Dig.below (h : Dig w B A n c xs) (hb : Below B w w') : Dig w' B A n c xs := h.keep fun _ hp => hb.cell hp
theorem Dig.at_ {k : Nat} (h : Dig w B A n c xs) (hk : k < n) : ∃ b o, A = some ⟨b, o, none⟩ ∧ b < B ∧ w.cell? ⟨b, o + k, none⟩ = some (.int .i64 (gd xs k : Nat)) := by
 rcases h.row with h0 | ⟨b, o, rfl, hb, hc⟩
 ·have := congrArg List.length h0
  rw [valsI_len, h.len] at this
  simp at this; omega
 ·exact ⟨b, o, rfl, hb, hc k _ (valsI_get (by rw [h.len]; exact hk))⟩
theorem Dig.nil : Dig w B none 0 0 [] := ⟨rfl, Nat.le_refl _, by simp [maxLen], .inl rfl, fun _ => rfl⟩
theorem Dig.of_own {base : Nat} {e : TypeId} (h : w.ownsRow base e 1 (.slice A n c) n (valsI xs)) : Dig w w.heap.size A n c xs := by
 have hl : xs.length = n := by have := h.1; rw [valsI_len] at this; omega
 rcases h.2 with ⟨h1, h2⟩ | ⟨g, cap, cur, hv, hg, hh, hnc, hcm, hsz, htk⟩
 ·injection h1 with h1 h3 h4
  subst h1; subst h4
  subst h3
  obtain rfl : xs = [] := List.eq_nil_of_length_eq_zero hl
  exact Dig.nil
 ·injection hv with h1 h3 h4
  subst h1; subst h4
  refine ⟨hl, hnc, hcm, .inr ⟨g, 0, rfl, ?_, fun j u hu => ?_⟩, fun h => by cases h⟩
  ·rcases Nat.lt_or_ge g w.heap.size with hlt | hge
   ·exact hlt
   ·rw [Array.getElem?_eq_none hge] at hh; cases hh
  ·have := h.cells (g := g) rfl j u hu
   simpa [Addr.add_lit] using this
end
theorem info_int : (Tryz.prog.info? 3).map (fun i => (i.zero, i.size, i.bytes)) = some (some (.int .i64 0), 1, 8) := by kernel_rfl
theorem wpList_append_dig {P : Program} {w : World} {ops : Array Oper} {rest : List Oper} {o : Oper} {a : Act} {Q : Exit → Act → World → Prop} (hgd : o.guard = none) (s x : Operand) (t tx : TypeId)
  (ho : o.op = .call { callee := .builtin .append, args := #[s, x], argTypes := #[t, tx] })
  (base e e' : TypeId) (i : TypeInfo) (ht : P.underlying t = some (.slice e)) (htx : P.underlying tx = some (.slice e')) (hi : P.info? e = some i) (hz : i.zero = some (.int .i64 0)) (hz1 : i.size = 1) (hz2 : i.bytes = 8)
  (A : Option Addr) (n c : Nat) (xs : List Nat) (hs : a.eval s = .slice A n c) (hown : w.ownsRow base e 1 (.slice A n c) n (valsI xs))
  (B : Nat) (A' : Option Addr) (m c' : Nat) (ys : List Nat) (hx : a.eval x = .slice A' m c') (hy : Dig w B A' m c' ys) (hlen : n + m ≤ 1000000000000) (hbase : base ≤ w.heap.size)
  (h : ∀ A2 c2 w', w'.ownsRow base e 1 (.slice A2 (n + m) c2) (n + m) (valsI (xs ++ ys)) → w.grownBy w' (Value.slice A n c).ownBlock → wpList P ops Q rest (a.put o.dst (.slice A2 (n + m) c2)) w') : wpList P ops Q (o :: rest) a w := by
 refine wpList_plain hgd fun K hK => ?_
 cases A' with
 | none =>
  have hc := hy.addr rfl
  have hm : m = 0 := by have := hy.cap; omega
  subst hc; subst hm
  obtain rfl : ys = [] := List.eq_nil_of_length_eq_zero hy.len
  have hrun := run_append_owned_none (P := P) (w := w) base t o.type e i 1 ht hi _ n (valsI xs) hown
  rw [← append_types ht htx hi] at hrun
  unfold Oper.wp execOp
  simp only [ho, resolve, invoke, builtin, Sem.run_bind, Sem.run_pure, Result.andThen_ok, List.map_toArray, List.map_cons, List.map_nil, hs, hx, hrun]
  exact hK _ _ (h A c w (by simpa using hown) (World.grownBy.refl _ _))
 | some ad =>
  have hcells : ∀ j u, (valsI ys)[j]? = some u → w.cell? (ad.add j) = some u := by
   intro j u hu
   rcases hy.row with h0 | ⟨b, o', he, _, hc⟩
   ·rw [h0] at hu; simp at hu
   ·injection he with he
    subst he
    rw [Addr.add_lit]
    exact hc j u hu
  obtain ⟨v', w', hr, h2, h3, _⟩ := run_append_own (P := P) w base t o.type e i (.int .i64 0) 1 8 ht hi hz hz1 hz2 rfl (by decide) _ n (valsI xs) hown ad m c' (valsI ys) (by rw [valsI_len, hy.len, Nat.mul_one]) hcells (valsI_one ys) (by unfold maxLen; omega) (by omega) hbase
  rw [← append_types ht htx hi] at hr
  obtain ⟨A2, c2, rfl⟩ := own_shape h2
  rw [← valsI_append] at h2
  unfold Oper.wp execOp
  simp only [ho, resolve, invoke, builtin, Sem.run_bind, Sem.run_pure, Result.andThen_ok, List.map_toArray, List.map_cons, List.map_nil, hs, hx, hr]
  exact hK _ _ (h A2 c2 w' h2 h3)
theorem Dig.one (w : World) (x : Nat) (v : Int) (hv : v = x) (t : TypeId) : Dig (w.alloc (.cells #[.int .i64 v] t)) (w.heap.size + 1) (some ⟨w.heap.size, 0, none⟩) 1 1 [x] := by
 subst hv
 refine ⟨rfl, Nat.le_refl _, by simp [maxLen], .inr ⟨w.heap.size, 0, rfl, Nat.lt_succ_self _, fun j u hu => ?_⟩, fun h => by cases h⟩
 match j, hu with
 | 0, hu =>
  simp [valsI] at hu
  subst hu
  rw [cell_of_row _ w.heap.size 0 _ t (0, 0) (heap_alloc_new w _)]
  rfl
def RetDig (W : World) (n v : Nat) (e : Ending) (w' : World) : Prop :=
 ∃ A c xs, e = .returned (.slice A n c) ∧ w'.ownsRow W.heap.size 3 1 (.slice A n c) n (valsI xs) ∧ xs.length = n ∧ (∀ j, gd xs j < 10) ∧ ten xs = v ∧ Below W.heap.size W w'
theorem dig_snoc {zs : List Nat} {d : Nat} (h : ∀ j, gd zs j < 10) (hd : d < 10) : ∀ j, gd (zs ++ [d]) j < 10 := by
 intro j
 rw [gd_append]
 split
 ·exact h j
 ·rcases Nat.eq_zero_or_pos (j - zs.length) with h0 | h0
  ·rw [h0, gd_cons_zero]; exact hd
  ·rw [gd_of_ge (by simp; omega)]; omega
theorem digit_lt {x j : Nat} (hx : x < 10 ^ (9 - j)) (hj : j < 9) : x / 10 < 10 ^ (9 - (j + 1)) := by
 rw [show 9 - j = (9 - (j + 1)) + 1 by omega, Nat.pow_succ] at hx
 omega
theorem digits_any (A : Option Addr) (n c a : Nat) (w : World) (h : Num w w.heap.size A n c a) (hn : n ≤ 1000000) :
  Calls Tryz.prog 93 #[.slice A n c] w (RetDig w (9 * n) a) := by
 obtain ⟨i0, hi, hz0, hz1, hz2⟩ := info_parts info_int
 have hm := h.room
 have hcap := h.cap
 unfold maxLen at hm
 have H := Lib.hid h
 clear h
 go_enter Tryz.func93, Tryz.ntmps93
 go_wp2
 go_loopw [3, 8] (fun v iv wr => ∃ (i m : Nat) (A2 : Option Addr) (c2 : Nat) (zs : List Nat), i ≤ n ∧ iv = .int .i64 i ∧ v = .slice A2 m c2 ∧ Hid (m = 9 * i) ∧ wr.ownsRow w.heap.size 3 1 (.slice A2 m c2) m (valsI zs) ∧ zs.length = m ∧ (∀ j, gd zs j < 10) ∧ ten zs = val ((dg a).take i) ∧ Below w.heap.size w wr) (fun _ iv _ => n - (intOf iv).toNat)
 case atStart => exact ⟨0, 0, none, 0, [], Nat.zero_le _, rfl, rfl, rfl, World.ownsRow_nil _ _ _ _, rfl, (fun j => by rw [gd_nil]; omega), rfl, Below.refl _ _⟩
 case round =>
  obtain ⟨i, m, A2, c2, zs, hin, rfl, rfl, hmi, hown, hlen, hdig, hten, hb⟩ := hrel
  have HO := Lib.hid hown
  have HB := Lib.hid hb
  have HL := Lib.hid hlen
  have HD := Lib.hid hdig
  have HT := Lib.hid hten
  clear hown hb hlen hdig hten
  rcases Nat.lt_or_ge i n with hlt | hge
  ·obtain ⟨b, o, rfl, _, hc⟩ := (H.out.below HB.out).at_ hlt
   have hx := gd_lt (limbs_dg a) i
   have hm9 : m ≤ 9000000 := by have := hmi.out; omega
   obtain ⟨wo, rfl⟩ : ∃ wo : World, wo = wr := ⟨_, rfl⟩
   go_wp2
   go_loopw [3, 5, 12] (fun v xv jv wr => ∃ (j x : Nat) (A3 : Option Addr) (c3 : Nat) (ys : List Nat), j ≤ 9 ∧ jv = .int .i64 j ∧ xv = .int .u32 x ∧ v = .slice A3 (m + j) c3 ∧ x < 1000000000 ∧ Hid (x < 10 ^ (9 - j)) ∧ wr.ownsRow w.heap.size 3 1 (.slice A3 (m + j) c3) (m + j) (valsI ys) ∧ ys.length = m + j ∧ (∀ j, gd ys j < 10) ∧ Hid (ten ys + 10 ^ (m + j) * x = val ((dg a).take (i + 1))) ∧ Below w.heap.size w wr) (fun _ _ jv _ => 9 - (intOf jv).toNat)
   case atStart => exact ⟨0, gd (dg a) i, A2, c2, zs, Nat.zero_le _, rfl, rfl, rfl, hx, hx, HO.out, HL.out, HD.out, by show _ = _; rw [HT.out, val_take_succ, Nat.add_zero, hmi.out, ← pow9], HB.out⟩
   case round =>
    obtain ⟨j, x, A3, c3, ys, hj9, rfl, rfl, rfl, hxx, HXL, hown, hlen, hdig, HTY, hb⟩ := hrel
    have HO3 := Lib.hid hown
    have HB3 := Lib.hid hb
    have HL3 := Lib.hid hlen
    have HD3 := Lib.hid hdig
    clear hown hb hlen hdig
    rcases Nat.lt_or_ge j 9 with hj | hj
    ·go_wp2_with (at_builtin; go_must (refine wpList_append_dig rfl (.tmp 14) (.tmp 18) 116 116 rfl w.heap.size 3 3 i0 Tryz.underlying116 Tryz.underlying116 hi hz0 hz1 hz2 A3 (m + j) c3 ys rfl (HO3.out.alloc _) _ _ 1 1 [x % 10] rfl (Dig.one _ _ _ (by omega) _) (by omega) (Nat.le_trans HB3.out.size (by simp)) ?_; intro A4 c4 w4 hown hgr))
     go_roundw
     case rel => exact ⟨j + 1, x / 10, A4, c4, ys ++ [x % 10], by omega, by go_num, by go_num, rfl, by omega, digit_lt HXL.out hj, hown, by rw [List.length_append, HL3.out]; rfl, dig_snoc HD3.out (by omega), digits_step HTY.out HL3.out rfl, (HB3.out.alloc HB3.out.size _).grown hgr (Nat.le_trans HB3.out.size (by simp)) (fun g hg => (HO3.out.lt g hg).1)⟩
     case measure => simp [intOf]; omega
    ·obtain rfl : j = 9 := by omega
     have hx0 : x = 0 := by have := HXL.out; simpa using this
     have HE : Hid (ten ys = val ((dg a).take (i + 1))) := by have := HTY.out; rwa [hx0, Nat.mul_zero, Nat.add_zero] at this
     clear hx0
     go_wp2
     go_roundw
     case rel => exact ⟨i + 1, m + 9, A3, c3, ys, by omega, by go_num, rfl, by show _ = _; rw [hmi.out]; omega, HO3.out, HL3.out, HD3.out, HE.out, HB3.out⟩
     case measure => simp [intOf]; omega
  ·obtain rfl : i = n := by omega
   obtain rfl : m = 9 * i := hmi.out
   have HE : Hid (ten zs = a) := by have := HT.out; rwa [List.take_of_length_le (by rw [H.out.len]; exact Nat.le_refl _), val_dg] at this
   go_wp2
   go_ret
   exact ⟨_, _, _, rfl, HO.out, HL.out, HD.out, HE.out, HB.out⟩
theorem num_prod {o u : Nat} (hu : u ≤ 100000000) : o % 10 * u ≤ 900000000 := Nat.le_trans (Nat.mul_le_mul (show o % 10 ≤ 9 by omega) hu) (by omega)
theorem num_small {o o' x : Nat} {xs : List Nat} {i : Nat} (h : x + 10 ^ 9 * (o' + ten (xs.drop (i + 9))) = o + ten (xs.drop i)) (hi : xs.length ≤ i) (ho : 0 < o) : o' < o := by
 rw [List.drop_of_length_le hi, List.drop_of_length_le (by omega), ten] at h
 omega
theorem pow_le_8 {k : Nat} (hk : k < 9) : 10 ^ k ≤ 100000000 := Nat.le_trans (Nat.pow_le_pow_right (by omega) (show k ≤ 8 by omega)) (by decide)
theorem num_i64 {a b : Int} (h : a = b) : Value.int .i64 a = .int .i64 b := by rw [h]
theorem num_lt9 {x k : Nat} (h : x < 10 ^ (k + 1)) (hk : k < 9) : x < 1000000000 :=
 Nat.lt_of_lt_of_le h (Nat.le_trans (Nat.pow_le_pow_right (by omega) (show k + 1 ≤ 9 by omega)) (by decide))
theorem num_meas {n i M o o2 : Nat} (hi : i < n) (ho : o2 ≤ M) : (n - (i + 9)) * (M + 1) + o2 < (n - i) * (M + 1) + o := by
 have h1 : (n - (i + 9)) * (M + 1) ≤ (n - i - 1) * (M + 1) := Nat.mul_le_mul_right _ (by omega)
 have h2 : (n - i) * (M + 1) = (n - i - 1) * (M + 1) + (M + 1) := by rw [← Nat.succ_mul]; congr 1; omega
 omega
theorem number_any (A : Option Addr) (n c M : Nat) (xs : List Nat) (w : World) (h : Dig w w.heap.size A n c xs) (hn : n ≤ 100000000) (hM : M ≤ 100000000) (hx : ∀ j, gd xs j ≤ M) :
    Calls Tryz.prog 92 #[.slice A n c] w (RetNum w (ten xs)) := by
  obtain ⟨i0, hi, hz0, hz1, hz2⟩ := info_parts info_limb
  have hm := h.room
  have hcap := h.cap
  unfold maxLen at hm
  have H := Lib.hid h
  have HX := Lib.hid hx
  clear h hx
  go_enter Tryz.func92, Tryz.ntmps92
  go_wp2
  go_loopw [3, 4, 5] (fun v ov iv wr => ∃ (j i o : Nat) (A2 : Option Addr) (c2 : Nat) (zs : List Nat), iv = .int .i64 i ∧ Hid (i = 9 * j) ∧ ov = .int .i64 o ∧ o ≤ M ∧ j + o ≤ n + M + 1 ∧ v = .slice A2 j c2 ∧ wr.ownsRow w.heap.size 103 1 (.slice A2 j c2) j (vals zs) ∧ limbs zs ∧ Hid (val zs + 1000000000 ^ j * (o + ten (xs.drop i)) = ten xs) ∧ Below w.heap.size w wr) (fun _ ov iv _ => (n - (intOf iv).toNat) * (M + 1) + (intOf ov).toNat)
  case atStart => exact ⟨0, 0, 0, none, 0, [], rfl, rfl, rfl, Nat.zero_le _, by omega, rfl, World.ownsRow_nil _ _ _ _, limbs_nil, by show _ = _; rw [List.drop_zero]; simp [val], Below.refl _ _⟩
  case round =>
    obtain ⟨j, i, o, A2, c2, zs, rfl, HI, rfl, ho, hjo, rfl, hown, hlim, HV, hb⟩ := hrel
    have HO := Lib.hid hown
    have HB := Lib.hid hb
    have HL := Lib.hid hlim
    have HZ : Hid (zs.length = j) := by have := hown.1; rw [vals_len, Nat.mul_one] at this; exact this
    have hi9 : i ≤ 9 * (n + M + 1) := by have := HI.out; omega
    clear hown hb hlim
    have hgo : (i < n) ∨ (n ≤ i ∧ 0 < o) ∨ (n ≤ i ∧ o = 0) := by omega
    rcases hgo with hin | ⟨hin, h0⟩ | ⟨hin, h0⟩
    case inr.inr =>
      subst h0
      have HE := Lib.hid (number_end HV.out (show xs.length ≤ i by rw [H.out.len]; exact hin))
      have HT : Hid (Calls Tryz.prog 124 #[.slice A2 j c2] wr (RetLim wr (dg (val zs)))) :=
        refTrim_any j A2 j c2 zs wr (Lim.of_own HO.out (fun x hx => by have := HL.out x hx; omega)) HL (Nat.le_refl _) (by omega)
      clear HV
      go_wp2_with (go_at_call 124; go_must (refine HT.out.mono ?_; rintro e w' ⟨A3, n3, c3, rfl, h3, hb3⟩; have H3 := Lib.hid h3; have HB3 := Lib.hid hb3; clear h3 hb3))
      go_ret
      exact ⟨_, _, _, rfl, by rw [← HE.out]; exact H3.out, HB.out.trans (HB3.out.mono HB.out.size)⟩
    all_goals
      obtain ⟨wo, rfl⟩ : ∃ wo : World, wo = wr := ⟨_, rfl⟩
      go_wp2
      go_loop [4, 6, 7, 8] (fun ov xv uv kv => ∃ (k o2 x u : Nat), k ≤ 9 ∧ kv = .int .i64 ((i : Int) + k) ∧ ov = .int .i64 o2 ∧ o2 ≤ M ∧ xv = .int .i64 x ∧ uv = .int .i64 u ∧ Hid (u = 10 ^ k) ∧ u ≤ 1000000000 ∧ Hid (x < 10 ^ k) ∧ x < 1000000000 ∧ Hid (x + 10 ^ k * (o2 + ten (xs.drop (i + k))) = o + ten (xs.drop i))) (fun _ _ _ kv => i + 9 - (intOf kv).toNat)
      case atStart => exact ⟨0, o, 0, 1, Nat.zero_le _, by go_num, rfl, ho, rfl, rfl, rfl, by omega, by show _ < _; simp, by omega, by show _ = _; simp⟩
      case round =>
        obtain ⟨k, o2, x, u, hk, rfl, rfl, ho2, rfl, rfl, HU, hu, HXL, hxl, HS⟩ := hrel
        rcases Nat.lt_or_ge k 9 with hk9 | hk9
        · have hu8 : u ≤ 100000000 := by rw [HU.out]; exact pow_le_8 hk9
          have HU2 : Hid (u * 10 = 10 ^ (k + 1)) := by show _ = _; rw [HU.out, Nat.pow_succ]
          rcases Nat.lt_or_ge (i + k) n with hik | hik
          · first
            | (exfalso; omega)
            | (obtain ⟨b5, o5, rfl, _, hc⟩ := (H.out.below HB.out).at_ hik
               have hd := HX.out (i + k)
               have HN := Lib.hid (number_step HS.out)
               have HLT := Lib.hid (number_lt HXL.out (show (o2 + gd xs (i + k)) % 10 < 10 by omega))
               have hpn : (o2 + gd xs (i + k)) % 10 * u ≤ 900000000 := num_prod hu8
               have E : Hid ((((o2 : Nat) : Int) + ((gd xs (i + k) : Nat) : Int)) % 10 * (u : Nat) = (((o2 + gd xs (i + k)) % 10 * u : Nat) : Int)) := by show _ = _; rw [Int.natCast_mul, Int.natCast_emod, Int.natCast_add]; try rfl
               have hp0 : 0 ≤ (((o2 : Nat) : Int) + ((gd xs (i + k) : Nat) : Int)) % 10 * (u : Nat) := by rw [E.out]; omega
               have hp1 : (((o2 : Nat) : Int) + ((gd xs (i + k) : Nat) : Int)) % 10 * (u : Nat) ≤ 900000000 := by rw [E.out]; omega
               clear hpn HS
               rw [← HU.out] at HN HLT
               go_wp2
               go_round
               case rel => exact ⟨k + 1, (o2 + gd xs (i + k)) / 10, x + (o2 + gd xs (i + k)) % 10 * u, u * 10, by omega, by go_num, by go_num, by omega, num_i64 (by rw [E.out]; omega), by go_num, HU2.out, by omega, HLT.out, num_lt9 HLT.out hk9, HN.out⟩
               case measure => simp [intOf]; omega)
          · have hd : Hid (gd xs (i + k) = 0) := gd_of_ge (by rw [H.out.len]; exact hik)
            have HN := number_step HS.out
            have HLT := number_lt HXL.out (show o2 % 10 < 10 by omega)
            rw [hd.out, Nat.add_zero] at HN
            have HN := Lib.hid HN
            have HLT := Lib.hid HLT
            have hpn : o2 % 10 * u ≤ 900000000 := num_prod hu8
            have E : Hid (((o2 : Nat) : Int) % 10 * (u : Nat) = ((o2 % 10 * u : Nat) : Int)) := by show _ = _; rw [Int.natCast_mul, Int.natCast_emod]; try rfl
            have hp0 : 0 ≤ ((o2 : Nat) : Int) % 10 * (u : Nat) := by rw [E.out]; omega
            have hp1 : ((o2 : Nat) : Int) % 10 * (u : Nat) ≤ 900000000 := by rw [E.out]; omega
            clear hpn HS
            rw [← HU.out] at HN HLT
            go_wp2
            go_round
            case rel => exact ⟨k + 1, o2 / 10, x + o2 % 10 * u, u * 10, by omega, by go_num, by go_num, by omega, num_i64 (by rw [E.out]; omega), by go_num, HU2.out, by omega, HLT.out, num_lt9 HLT.out hk9, HN.out⟩
            case measure => simp [intOf]; omega
        · obtain rfl : k = 9 := by omega
          have HS9 : Hid (x + 10 ^ 9 * (o2 + ten (xs.drop (i + 9))) = o + ten (xs.drop i)) := HS
          go_wp2_with (at_builtin; go_must (refine wpList_append_lim rfl (.tmp 46) (.tmp 49) 23 23 rfl w.heap.size 103 103 i0 Tryz.underlying23 Tryz.underlying23 hi hz0 hz1 hz2 A2 j c2 zs rfl (HO.out.alloc _) _ _ 1 1 [x] rfl (Lim.one _ _ _ (by omega) (by omega) _) (by omega) (Nat.le_trans HB.out.size (by simp)) ?_; intro A3 c3 w3 hown hgr))
          go_roundw
          case rel => exact ⟨j + 1, i + 9, o2, A3, c3, zs ++ [x], by go_num, by show _ = _; rw [HI.out]; omega, rfl, ho2, (by first | (have := HI.out; omega) | (have := num_small HS9.out (show xs.length ≤ i by rw [H.out.len]; exact hin) h0; omega)), rfl, hown, limbs_append.2 ⟨HL.out, limbs_cons.2 ⟨hxl, limbs_nil⟩⟩, number_limb HV.out HS9.out HZ.out, (HB.out.alloc HB.out.size _).grown hgr (Nat.le_trans HB.out.size (by simp)) (fun g hg => (HO.out.lt g hg).1)⟩
          case measure =>
            simp only [intOf]
            rw [show ((i : Int) + 9).toNat = i + 9 by omega, Int.toNat_natCast, Int.toNat_natCast, Int.toNat_natCast]
            first | exact num_meas hin ho2 | (rw [show n - (i + 9) = 0 by omega, show n - i = 0 by omega]; have := num_small HS9.out (show xs.length ≤ i by rw [H.out.len]; exact hin) h0; omega)
def OwnI (w : World) (g : Nat) (zs : List Nat) : Prop := w.heap[g]? = some (.cells (valsI zs).toArray 3 (0, 0))
theorem OwnI.cell {w : World} {g : Nat} {zs : List Nat} (h : OwnI w g zs) {i : Nat} (hi : i < zs.length) : w.cell? ⟨g, i, none⟩ = some (.int .i64 (gd zs i : Nat)) := by
 rw [cell_of_row w g i _ _ (0, 0) h]
 simpa using valsI_get hi
theorem OwnI.frozen {w : World} {g : Nat} {zs : List Nat} (h : OwnI w g zs) (i : Nat) : w.frozen? ⟨g, i, none⟩ = false := frozen_of_row w g i _ _ h
theorem OwnI.lt {w : World} {g : Nat} {zs : List Nat} (h : OwnI w g zs) : g < w.heap.size := by
 rcases Nat.lt_or_ge g w.heap.size with hlt | hge
 ·exact hlt
 ·unfold OwnI at h; rw [Array.getElem?_eq_none hge] at h; cases h
theorem OwnI.store {w : World} {g : Nat} {zs : List Nat} (h : OwnI w g zs) (i : Nat) (x : Nat) (v : Int) (hv : v = x) : OwnI (w.setCell ⟨g, i, none⟩ (.int .i64 v)) g (zs.set i x) := by
 subst hv
 unfold OwnI at h ⊢
 rw [heap_setCell_same w g i _ _ _ h, valsI_set]
 simp
theorem OwnI.drew {w : World} {g : Nat} {zs : List Nat} (h : OwnI w g zs) : OwnI w.drew g zs := h
theorem OwnI.dig {w : World} {g m : Nat} {zs : List Nat} (h : OwnI w g zs) (hl : zs.length = m) (hm : m ≤ 1000000000000) : Dig w w.heap.size (some ⟨g, 0, none⟩) m m zs := by
 subst hl
 refine ⟨rfl, Nat.le_refl _, by unfold maxLen; omega, .inr ⟨g, 0, rfl, h.lt, fun j u hu => ?_⟩, fun h => by cases h⟩
 rw [cell_of_row w g (0 + j) _ _ (0, 0) h, Nat.zero_add]
 simpa using hu
theorem made_vals (n : Nat) : (madeCells (Value.int .i64 0).cells (n * 1)).toList = valsI (List.replicate n 0) := by
 rw [Nat.mul_one]
 show (madeCells #[Value.int .i64 0] n).toList = _
 rw [toList_madeCells_one]
 simp [valsI]
theorem OwnI.of_made {w : World} {base n : Nat} (h : w.ownsRow base 3 1 (.slice (some ⟨base, 0, none⟩) n n) n (madeCells (Value.int .i64 0).cells (n * 1)).toList) : OwnI w base (List.replicate n 0) := by
 rw [made_vals] at h
 rcases h.2 with ⟨h1, _⟩ | ⟨g, cap, cur, hv, _, hh, _, _, hsz, htk⟩
 ·cases h1
 ·injection hv with h1 h2 h3
  injection h1 with h1
  injection h1 with h1
  subst h1; subst h3
  unfold OwnI
  rw [hh, ← htk, List.take_of_length_le (by simp; omega)]
theorem conv_lo {zs : List Nat} {i k v B : Nat} (hk : i + k < zs.length) (h : ∀ j, j < i + k → gd zs j ≤ B) (hv : v ≤ B) : ∀ j, j < i + (k + 1) → gd (zs.set (i + k) v) j ≤ B := by
 intro j hj
 rw [gd_set _ _ _ _ hk]
 split
 ·exact hv
 ·exact h j (by omega)
theorem conv_hi {zs : List Nat} {i k v B : Nat} (hk : i + k < zs.length) (h : ∀ j, i + k ≤ j → gd zs j ≤ B) : ∀ j, i + (k + 1) ≤ j → gd (zs.set (i + k) v) j ≤ B := by
 intro j hj
 rw [gd_set _ _ _ _ hk, if_neg (by omega)]
 exact h j (by omega)
theorem refMul_any (A A' : Option Addr) (n c n' c' a b : Nat) (w : World) (h : Num w w.heap.size A n c a) (h' : Num w w.heap.size A' n' c' b) (hn : n ≤ 100000) (hn' : n' ≤ 100000) :
  Calls Tryz.prog 123 #[.slice A n c, .slice A' n' c'] w (RetNum w (a * b)) := by
 obtain ⟨i0, hi, hz0, hz1, hz2⟩ := info_parts info_int
 have H' := Lib.hid h'
 have C1 := Lib.hid (digits_any A n c a w h (by omega))
 clear h h'
 go_enter Tryz.func123, Tryz.ntmps123
 go_wp2_with fail
 refine C1.out.mono ?_; rintro e w1 ⟨A1, c1, xs, rfl, ho1, hl1, hd1, ht1, hb1⟩
 have X1 := Lib.hid (Dig.of_own ho1)
 have HB1 := Lib.hid hb1
 have D1 := Lib.hid hd1
 have T1 := Lib.hid ht1
 have C2 := Lib.hid (digits_any A' n' c' b w1 ((H'.out.below hb1).more hb1.size) (by omega))
 clear ho1 hl1 hd1 ht1 hb1 C1
 go_wp2_with fail
 refine C2.out.mono ?_; rintro e w2 ⟨A2, c2, ys, rfl, ho2, hl2, hd2, ht2, hb2⟩
 have X2 := Lib.hid (Dig.of_own ho2)
 have X1 := Lib.hid ((X1.out.below hb2).more hb2.size)
 have HB2 := Lib.hid (HB1.out.trans (hb2.mono HB1.out.size))
 have D2 := Lib.hid hd2
 have T2 := Lib.hid ht2
 have HSZ := Lib.hid (Nat.le_trans HB1.out.size hb2.size)
 clear ho2 hl2 hd2 ht2 hb2 C2
 obtain ⟨N, hN⟩ : ∃ N, N = 9 * n := ⟨_, rfl⟩
 obtain ⟨N', hN'⟩ : ∃ N', N' = 9 * n' := ⟨_, rfl⟩
 have hNb : N ≤ 900000 := by omega
 have hNb' : N' ≤ 900000 := by omega
 rw [← hN] at X1 ⊢
 rw [← hN'] at X2 ⊢
 clear hN hN'
 go_wp2_with (at_make; go_must (refine wpList_make_full _ rfl _ _ 116 rfl w2.heap.size 3 i0 (.int .i64 0) 1 Tryz.underlying116 hi hz0 hz1 _ _ _ _ (N + N') rfl rfl (by omega) (by omega) (by rw [hz2]; omega) (by unfold maxLen; omega) (Nat.le_refl _) ?_; intro w3 hown1 hgr1; have O3 : Hid (OwnI w3 w2.heap.size (List.replicate (N + N') 0)) := OwnI.of_made hown1; have HB3 : Hid (Below w2.heap.size w2 w3) := (Below.refl _ _).grown hgr1 (Nat.le_refl _) (fun k hk => by cases hk); clear hown1 hgr1))
 go_loopw [22] (fun iv wr => ∃ (i : Nat) (zs : List Nat), i ≤ N ∧ iv = .int .i64 i ∧ zs.length = N + N' ∧ (∀ j, gd zs j ≤ 81 * i) ∧ ten zs = ten (xs.take i) * ten ys ∧ OwnI wr w2.heap.size zs ∧ Below w2.heap.size w2 wr) (fun iv _ => N - (intOf iv).toNat)
 case atStart =>
  exact ⟨0, List.replicate (N + N') 0, Nat.zero_le _, rfl, by simp, (fun j => by rw [gd_zeros]; omega), by rw [ten_zeros, List.take_zero, ten, Nat.zero_mul], O3.out, HB3.out⟩
 case round =>
  obtain ⟨i, zs, hi1, rfl, hlen, hle, hval, hown, hb⟩ := hrel
  clear O3 HB3
  have OW := Lib.hid hown
  have HL := Lib.hid hle
  have HV := Lib.hid hval
  have HB := Lib.hid hb
  have LN := Lib.hid hlen
  clear hown hle hval hb hlen
  rcases Nat.lt_or_ge i N with hin | hin
  ·obtain ⟨wo, rfl⟩ : ∃ wo : World, wo = wr := ⟨_, rfl⟩
   go_wp2
   go_loopw [27] (fun kv wr => ∃ (k : Nat) (zs : List Nat), k ≤ N' ∧ kv = .int .i64 k ∧ zs.length = N + N' ∧ (∀ j, j < i + k → gd zs j ≤ 81 * (i + 1)) ∧ (∀ j, i + k ≤ j → gd zs j ≤ 81 * i) ∧ ten zs = ten (xs.take i) * ten ys + 10 ^ i * (gd xs i * ten (ys.take k)) ∧ OwnI wr w2.heap.size zs ∧ Below w2.heap.size w2 wr) (fun kv _ => N' - (intOf kv).toNat)
   case atStart =>
    exact ⟨0, zs, Nat.zero_le _, rfl, LN.out, (fun j _ => Nat.le_trans (HL.out j) (by omega)), (fun j _ => HL.out j), by rw [HV.out, List.take_zero, ten]; simp, OW.out, HB.out⟩
   case round =>
    obtain ⟨k, us, hk1, rfl, hlen, hlo, hhi, hval, hown, hb⟩ := hrel
    have OU := Lib.hid hown
    have LO := Lib.hid hlo
    have HI := Lib.hid hhi
    have HU := Lib.hid hval
    have HC := Lib.hid hb
    have LU := Lib.hid hlen
    clear hown hlo hhi hval hb hlen
    rcases Nat.lt_or_ge k N' with hkn | hkn
    ·obtain ⟨b1, o1, rfl, _, hc1⟩ := (X1.out.below HC.out).at_ hin
     obtain ⟨b2, o2, rfl, _, hc2⟩ := (X2.out.below HC.out).at_ hkn
     have hc3 := OU.out.cell (i := i + k) (by rw [LU.out]; omega)
     have hfr := OU.out.frozen (i + k)
     have hx := D1.out i
     have hy := D2.out k
     have hz := HI.out (i + k) (Nat.le_refl _)
     have hpn : gd xs i * gd ys k ≤ 81 := Nat.le_trans (Nat.mul_le_mul (show gd xs i ≤ 9 by omega) (show gd ys k ≤ 9 by omega)) (by omega)
     have E : Hid (((gd xs i : Nat) : Int) * ((gd ys k : Nat) : Int) = ((gd xs i * gd ys k : Nat) : Int)) := by show _ = _; rw [Int.natCast_mul]
     have hp0 : 0 ≤ ((gd xs i : Nat) : Int) * ((gd ys k : Nat) : Int) := by rw [E.out]; omega
     have hp1 : ((gd xs i : Nat) : Int) * ((gd ys k : Nat) : Int) ≤ 81 := by rw [E.out]; omega
     have HPN := Lib.hid hpn
     clear hpn
     go_wp2
     go_region
     go_wp2
     go_roundw
     case rel =>
      have hv : ((gd us (i + k) : Nat) : Int) + ((gd xs i : Nat) : Int) * ((gd ys k : Nat) : Int) = ((gd us (i + k) + gd xs i * gd ys k : Nat) : Int) := by rw [E.out]; omega
      have hlt : i + k < us.length := by rw [LU.out]; omega
      exact ⟨k + 1, us.set (i + k) (gd us (i + k) + gd xs i * gd ys k), by omega, by go_num, by rw [List.length_set]; exact LU.out, conv_lo hlt LO.out (by have := HPN.out; omega), conv_hi hlt HI.out, conv_step HU.out hlt, (OU.out.store _ _ _ hv).drew, (HC.out.setCell (Nat.le_refl _) _).drew⟩
     case measure => simp [intOf]; omega
    ·obtain rfl : k = N' := by omega
     go_wp2
     go_roundw
     case rel =>
      refine ⟨i + 1, us, by omega, by go_num, LU.out, fun j => ?_, ?_, OU.out, HC.out⟩
      ·rcases Nat.lt_or_ge j (i + k) with h1 | h1
       ·exact LO.out j h1
       ·exact Nat.le_trans (HI.out j h1) (by omega)
      ·have := HU.out
       rw [List.take_of_length_le (show ys.length ≤ k by rw [X2.out.len]; exact Nat.le_refl _)] at this
       exact conv_row this
     case measure => simp [intOf]; omega
  ·obtain rfl : i = N := by omega
   have HE : Hid (ten zs = a * b) := by have := HV.out; rw [List.take_of_length_le (by rw [X1.out.len]; exact Nat.le_refl _)] at this; show _ = _; rw [this, T1.out, T2.out]
   have CN := Lib.hid (number_any (some ⟨w2.heap.size, 0, none⟩) (i + N') (i + N') 72900000 zs wr (OW.out.dig LN.out (by omega)) (by omega) (by omega) (fun j => Nat.le_trans (HL.out j) (by omega)))
   go_wp2_with fail
   refine CN.out.mono ?_; rintro e w4 ⟨A4, n4, c4, rfl, h4, hb4⟩
   have H4 := Lib.hid h4
   have HB4 := Lib.hid (HB2.out.trans ((HB.out.mono HSZ.out).trans (hb4.mono (Nat.le_trans HSZ.out HB.out.size))))
   clear h4 hb4
   go_wp2_with fail
   go_ret
   exact ⟨_, _, _, rfl, by rw [← HE.out]; exact H4.out, HB4.out⟩
theorem refMul_is {A A' : Option Addr} {n c n' c' a b m : Nat} {w : World} (h : Num w w.heap.size A n c a) (h' : Num w w.heap.size A' n' c' b) (hn : n ≤ 100000) (hn' : n' ≤ 100000) (hm : a * b = m) :
  Calls Tryz.prog 123 #[.slice A n c, .slice A' n' c'] w (RetNum w m) := by
 subst hm; exact refMul_any A A' n c n' c' a b w h h' hn hn'
theorem refMk_any (N : Nat) (v : Int) (hv : v = N) (hN : N < 18446744073709551616) (w : World) : Calls Tryz.prog 95 #[.int .u64 v] w (RetNum w N) := by
 subst hv; exact refMake_any 3 N w hN (len_of_u64 hN)
theorem refTimes_is {A : Option Addr} {n c a l m : Nat} {w : World} (h : Num w w.heap.size A n c a) (hn : n ≤ 100000) (hl : l < 4294967296) (hm : a * l = m) :
  Calls Tryz.prog 132 #[.slice A n c, .int .u32 l] w (RetNum w m) := by
 have H := Lib.hid h
 have HM := Lib.hid hm
 clear h hm
 go_enter Tryz.func132, Tryz.ntmps132
 go_wp2_with fail
 refine (refMk_any l _ rfl (by omega) _).mono ?_; rintro e w1 ⟨A1, n1, c1, rfl, h1, hb1⟩
 have hn1 : n1 ≤ 3 := by have := len_of_u64 (show l < 18446744073709551616 by omega); rwa [h1.len] at this
 have HB1 := Lib.hid hb1
 have H1 := Lib.hid h1
 clear h1 hb1
 go_wp2_with fail
 refine (refMul_is ((H.out.below HB1.out).more HB1.out.size) H1.out hn (by omega) HM.out).mono ?_; rintro e w2 ⟨A2, n2, c2, rfl, h2, hb2⟩
 have HB2 := Lib.hid (HB1.out.trans (hb2.mono HB1.out.size))
 have H2 := Lib.hid h2
 clear h2 hb2
 go_wp2_with fail
 go_ret
 exact ⟨_, _, _, rfl, H2.out, HB2.out⟩
end Go.Proofs.YtdpkbglfebimcaaGreatDoor.Num
