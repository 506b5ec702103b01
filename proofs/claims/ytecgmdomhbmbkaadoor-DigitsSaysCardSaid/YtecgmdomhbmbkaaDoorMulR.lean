/-
  Memory words for slices of int; the document's digits.
-/
import Derived.Test.YtecgmdomhbmbkaaDoorMulH
namespace Go.Proofs.YtecgmdomhbmbkaaDoor
open Go.RowKit

/-- Digits as they lie in cells. -/
def valsI (xs : List Nat) : List Value := xs.map (fun (x : Nat) => Value.int .i64 (x : Int))
theorem valsI_get {xs : List Nat} {j : Nat} (h : j < xs.length) : (valsI xs)[j]? = some (.int .i64 (gd xs j : Nat)) := by
  unfold valsI; rw [List.getElem?_map, gd_of_lt h]; rfl
theorem valsI_len (xs : List Nat) : (valsI xs).length = xs.length := by simp [valsI]
theorem valsI_one (xs : List Nat) : ∀ u ∈ valsI xs, u.oneCell' = true := by
  intro u hu
  obtain ⟨x, _, rfl⟩ := List.mem_map.1 hu
  rfl
theorem valsI_append (xs ys : List Nat) : valsI (xs ++ ys) = valsI xs ++ valsI ys := by simp [valsI]
theorem valsI_set (xs : List Nat) (i x : Nat) : valsI (xs.set i x) = (valsI xs).set i (.int .i64 (x : Int)) := by simp [valsI, List.map_set]

/-- The slice of int at A of n elements and capacity c reads as the digits xs. -/
structure Dig (w : World) (B : Nat) (A : Option Addr) (n c : Nat) (xs : List Nat) : Prop where
  len : xs.length = n
  cap : n ≤ c
  room : c ≤ maxLen
  row : Row w B A (valsI xs)
  addr : A = none → c = 0

section
variable {w w' : World} {B n c : Nat} {A : Option Addr} {xs : List Nat}
theorem Dig.keep (h : Dig w B A n c xs) (hk : ∀ p : Addr, p.block < B → w'.cell? p = w.cell? p) : Dig w' B A n c xs := ⟨h.len, h.cap, h.room, h.row.keep hk, h.addr⟩
theorem Dig.more {B' : Nat} (h : Dig w B A n c xs) (hB : B ≤ B') : Dig w B' A n c xs := ⟨h.len, h.cap, h.room, h.row.more hB, h.addr⟩
theorem Dig.below (h : Dig w B A n c xs) (hb : Below B w w') : Dig w' B A n c xs := h.keep fun _ hp => hb.cell hp
theorem Dig.at_ {k : Nat} (h : Dig w B A n c xs) (hk : k < n) : ∃ b o, A = some ⟨b, o, none⟩ ∧ b < B ∧ w.cell? ⟨b, o + k, none⟩ = some (.int .i64 (gd xs k : Nat)) := by
  rcases h.row with h0 | ⟨b, o, rfl, hb, hc⟩
  · have := congrArg List.length h0
    rw [valsI_len, h.len] at this
    simp at this; omega
  · exact ⟨b, o, rfl, hb, hc k _ (valsI_get (by rw [h.len]; exact hk))⟩
theorem Dig.nil : Dig w B none 0 0 [] := ⟨rfl, Nat.le_refl _, by simp [maxLen], .inl rfl, fun _ => rfl⟩
theorem Dig.of_own {base : Nat} {e : TypeId} (h : w.ownsRow base e 1 (.slice A n c) n (valsI xs)) : Dig w w.heap.size A n c xs := by
  have hl : xs.length = n := by have := h.1; rw [valsI_len] at this; omega
  rcases h.2 with ⟨h1, h2⟩ | ⟨g, cap, cur, hv, hg, hh, hnc, hcm, hsz, htk⟩
  · injection h1 with h1 h3 h4
    subst h1; subst h4
    subst h3
    obtain rfl : xs = [] := List.eq_nil_of_length_eq_zero hl
    exact Dig.nil
  · injection hv with h1 h3 h4
    subst h1; subst h4
    refine ⟨hl, hnc, hcm, .inr ⟨g, 0, rfl, ?_, fun j u hu => ?_⟩, fun h => by cases h⟩
    · rcases Nat.lt_or_ge g w.heap.size with hlt | hge
      · exact hlt
      · rw [Array.getElem?_eq_none hge] at hh; cases hh
    · have := h.cells (g := g) rfl j u hu
      simpa [Addr.add_lit] using this
end

theorem info_int : (Tryd.prog.info? 3).map (fun i => (i.zero, i.size, i.bytes)) = some (some (.int .i64 0), 1, 8) := by kernel_rfl
theorem info_int1 : (Tryd.prog.info? 3).map (·.size) = some 1 := by kernel_rfl

/-- 'append' of digits to digits of the call's own, nil or not. -/
theorem wpList_append_dig {P : Program} {w : World} {ops : Array Oper} {rest : List Oper} {o : Oper} {a : Act} {Q : Exit → Act → World → Prop} (hgd : o.guard = none) (s x : Operand) (t tx : TypeId)
    (ho : o.op = .call { callee := .builtin .append, args := #[s, x], argTypes := #[t, tx] })
    (base e e' : TypeId) (i : TypeInfo) (ht : P.underlying t = some (.slice e)) (htx : P.underlying tx = some (.slice e')) (hi : P.info? e = some i) (hz : i.zero = some (.int .i64 0)) (hz1 : i.size = 1) (hz2 : i.bytes = 8)
    (A : Option Addr) (n c : Nat) (xs : List Nat) (hs : a.eval s = .slice A n c) (hown : w.ownsRow base e 1 (.slice A n c) n (valsI xs))
    (B : Nat) (A' : Option Addr) (m c' : Nat) (ys : List Nat) (hx : a.eval x = .slice A' m c') (hy : Dig w B A' m c' ys) (hlen : n + m ≤ 1000000000000) (hbase : base ≤ w.heap.size)
    (h : ∀ A2 c2 w', w'.ownsRow base e 1 (.slice A2 (n + m) c2) (n + m) (valsI (xs ++ ys)) → w.grownBy w' (Value.slice A n c).ownBlock → wpList P ops Q rest (a.put o.dst (.slice A2 (n + m) c2)) w') : wpList P ops Q (o :: rest) a w := by
  refine wpList_plain hgd fun K hK => ?_
  cases A' with
  | none =>
    have hc := hy.addr rfl
    have hm : m = 0 := by have := hy.cap; omega
    subst hc; subst hm
    obtain rfl : ys = [] := List.eq_nil_of_length_eq_zero hy.len
    have hrun := run_append_owned_none (P := P) (w := w) base t o.type e i 1 ht hi _ n (valsI xs) hown
    rw [← append_types ht htx hi] at hrun
    unfold Oper.wp execOp
    simp only [ho, resolve, invoke, builtin, Sem.run_bind, Sem.run_pure, Result.andThen_ok, List.map_toArray, List.map_cons, List.map_nil, hs, hx, hrun]
    exact hK _ _ (h A c w (by simpa using hown) (World.grownBy.refl _ _))
  | some ad =>
    have hcells : ∀ j u, (valsI ys)[j]? = some u → w.cell? (ad.add j) = some u := by
      intro j u hu
      rcases hy.row with h0 | ⟨b, o', he, _, hc⟩
      · rw [h0] at hu; simp at hu
      · injection he with he
        subst he
        rw [Addr.add_lit]
        exact hc j u hu
    obtain ⟨v', w', hr, h2, h3, _⟩ := run_append_own (P := P) w base t o.type e i (.int .i64 0) 1 8 ht hi hz hz1 hz2 rfl (by decide) _ n (valsI xs) hown ad m c' (valsI ys) (by rw [valsI_len, hy.len, Nat.mul_one]) hcells (valsI_one ys) (by unfold maxLen; omega) (by omega) hbase
    rw [← append_types ht htx hi] at hr
    obtain ⟨A2, c2, rfl⟩ := own_shape h2
    rw [← valsI_append] at h2
    unfold Oper.wp execOp
    simp only [ho, resolve, invoke, builtin, Sem.run_bind, Sem.run_pure, Result.andThen_ok, List.map_toArray, List.map_cons, List.map_nil, hs, hx, hr]
    exact hK _ _ (h A2 c2 w' h2 h3)

theorem Dig.one (w : World) (x : Nat) (v : Int) (hv : v = x) (t : TypeId) : Dig (w.alloc (.cells #[.int .i64 v] t)) (w.heap.size + 1) (some ⟨w.heap.size, 0, none⟩) 1 1 [x] := by
  subst hv
  refine ⟨rfl, Nat.le_refl _, by simp [maxLen], .inr ⟨w.heap.size, 0, rfl, Nat.lt_succ_self _, fun j u hu => ?_⟩, fun h => by cases h⟩
  match j, hu with
  | 0, hu =>
    simp [valsI] at hu
    subst hu
    rw [cell_of_row _ w.heap.size 0 _ t (0, 0) (heap_alloc_new w _)]
    rfl

/-- Digits in a row of the call's own: n of them, of the number v. -/
def RetDig (W : World) (n v : Nat) (e : Ending) (w' : World) : Prop :=
  ∃ A c xs, e = .returned (.slice A n c) ∧ w'.ownsRow W.heap.size 3 1 (.slice A n c) n (valsI xs) ∧ xs.length = n ∧ (∀ j, gd xs j < 10) ∧ ten xs = v ∧ Below W.heap.size W w'

theorem dig_snoc {zs : List Nat} {d : Nat} (h : ∀ j, gd zs j < 10) (hd : d < 10) : ∀ j, gd (zs ++ [d]) j < 10 := by
  intro j
  rw [gd_append]
  split
  · exact h j
  · rcases Nat.eq_zero_or_pos (j - zs.length) with h0 | h0
    · rw [h0, gd_cons_zero]; exact hd
    · rw [gd_of_ge (by simp; omega)]; omega
theorem digit_lt {x j : Nat} (hx : x < 10 ^ (9 - j)) (hj : j < 9) : x / 10 < 10 ^ (9 - (j + 1)) := by
  rw [show 9 - j = (9 - (j + 1)) + 1 by omega, Nat.pow_succ] at hx
  omega

set_option maxHeartbeats 1000000 in
theorem digits_any (A : Option Addr) (n c a : Nat) (w : World) (h : Num w w.heap.size A n c a) (hn : n ≤ 1000000) :
    Calls Tryd.prog 46 #[.slice A n c] w (RetDig w (9 * n) a) := by
  obtain ⟨i0, hi, hz0, hz1, hz2⟩ := info_parts info_int
  have hm := h.room
  have hcap := h.cap
  unfold maxLen at hm
  have H := Lib.hid h
  clear h
  go_enter Tryd.func46, Tryd.ntmps46
  go_wp2
  go_loopw [3, 8] (fun v iv wr => ∃ (i m : Nat) (A2 : Option Addr) (c2 : Nat) (zs : List Nat), i ≤ n ∧ iv = .int .i64 i ∧ v = .slice A2 m c2 ∧ Hid (m = 9 * i) ∧ wr.ownsRow w.heap.size 3 1 (.slice A2 m c2) m (valsI zs) ∧ zs.length = m ∧ (∀ j, gd zs j < 10) ∧ ten zs = val ((dg a).take i) ∧ Below w.heap.size w wr) (fun _ iv _ => n - (intOf iv).toNat)
  case atStart => exact ⟨0, 0, none, 0, [], Nat.zero_le _, rfl, rfl, rfl, World.ownsRow_nil _ _ _ _, rfl, (fun j => by rw [gd_nil]; omega), rfl, Below.refl _ _⟩
  case round =>
    obtain ⟨i, m, A2, c2, zs, hin, rfl, rfl, hmi, hown, hlen, hdig, hten, hb⟩ := hrel
    have HO := Lib.hid hown
    have HB := Lib.hid hb
    have HL := Lib.hid hlen
    have HD := Lib.hid hdig
    have HT := Lib.hid hten
    clear hown hb hlen hdig hten
    rcases Nat.lt_or_ge i n with hlt | hge
    · obtain ⟨b, o, rfl, _, hc⟩ := (H.out.below HB.out).at_ hlt
      have hx := gd_lt (limbs_dg a) i
      have hm9 : m ≤ 9000000 := by have := hmi.out; omega
      obtain ⟨wo, rfl⟩ : ∃ wo : World, wo = wr := ⟨_, rfl⟩
      go_wp2
      go_loopw [3, 5, 12] (fun v xv jv wr => ∃ (j x : Nat) (A3 : Option Addr) (c3 : Nat) (ys : List Nat), j ≤ 9 ∧ jv = .int .i64 j ∧ xv = .int .u32 x ∧ v = .slice A3 (m + j) c3 ∧ x < 1000000000 ∧ Hid (x < 10 ^ (9 - j)) ∧ wr.ownsRow w.heap.size 3 1 (.slice A3 (m + j) c3) (m + j) (valsI ys) ∧ ys.length = m + j ∧ (∀ j, gd ys j < 10) ∧ Hid (ten ys + 10 ^ (m + j) * x = val ((dg a).take (i + 1))) ∧ Below w.heap.size w wr) (fun _ _ jv _ => 9 - (intOf jv).toNat)
      case atStart => exact ⟨0, gd (dg a) i, A2, c2, zs, Nat.zero_le _, rfl, rfl, rfl, hx, hx, HO.out, HL.out, HD.out, by show _ = _; rw [HT.out, val_take_succ, Nat.add_zero, hmi.out, ← pow9], HB.out⟩
      case round =>
        obtain ⟨j, x, A3, c3, ys, hj9, rfl, rfl, rfl, hxx, HXL, hown, hlen, hdig, HTY, hb⟩ := hrel
        have HO3 := Lib.hid hown
        have HB3 := Lib.hid hb
        have HL3 := Lib.hid hlen
        have HD3 := Lib.hid hdig
        clear hown hb hlen hdig
        rcases Nat.lt_or_ge j 9 with hj | hj
        · go_wp2_with (at_builtin; go_must (refine wpList_append_dig rfl (.tmp 14) (.tmp 18) 61 61 rfl w.heap.size 3 3 i0 Tryd.underlying61 Tryd.underlying61 hi hz0 hz1 hz2 A3 (m + j) c3 ys rfl (HO3.out.alloc _) _ _ 1 1 [x % 10] rfl (Dig.one _ _ _ (by omega) _) (by omega) (Nat.le_trans HB3.out.size (by simp)) ?_; intro A4 c4 w4 hown hgr))
          go_roundw
          case rel => exact ⟨j + 1, x / 10, A4, c4, ys ++ [x % 10], by omega, by go_num, by go_num, rfl, by omega, digit_lt HXL.out hj, hown, by rw [List.length_append, HL3.out]; rfl, dig_snoc HD3.out (by omega), digits_step HTY.out HL3.out rfl, (HB3.out.alloc HB3.out.size _).grown hgr (Nat.le_trans HB3.out.size (by simp)) (fun g hg => (HO3.out.lt g hg).1)⟩
          case measure => simp [intOf]; omega
        · obtain rfl : j = 9 := by omega
          have hx0 : x = 0 := by have := HXL.out; simpa using this
          have HE : Hid (ten ys = val ((dg a).take (i + 1))) := by have := HTY.out; rwa [hx0, Nat.mul_zero, Nat.add_zero] at this
          clear hx0
          go_wp2
          go_roundw
          case rel => exact ⟨i + 1, m + 9, A3, c3, ys, by omega, by go_num, rfl, by show _ = _; rw [hmi.out]; omega, HO3.out, HL3.out, HD3.out, HE.out, HB3.out⟩
          case measure => simp [intOf]; omega
    · obtain rfl : i = n := by omega
      obtain rfl : m = 9 * i := hmi.out
      have HE : Hid (ten zs = a) := by have := HT.out; rwa [List.take_of_length_le (by rw [H.out.len]; exact Nat.le_refl _), val_dg] at this
      go_wp2
      go_ret
      exact ⟨_, _, _, rfl, HO.out, HL.out, HD.out, HE.out, HB.out⟩

end Go.Proofs.YtecgmdomhbmbkaaDoor
