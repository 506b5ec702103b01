/- What the proof needs, texts MulU, in one text. -/
import Derived.Test.YtdpkbglfebimcaaGreatDoorAll06
import Derived.Deep.RegionLaw
set_option linter.unusedVariables false
set_option linter.unusedSimpArgs false
set_option maxRecDepth 100000
set_option maxHeartbeats 32000000
namespace Go.Proofs.YtdpkbglfebimcaaGreatDoor.Num
open Go.RowKit
section
variable {P : Program} {w : World} {o : Oper} {a : Act}
theorem wp_append_dig {K : Act → World → Prop} {Q : Exit → Act → World → Prop} (s x : Operand) (t tx : TypeId)
  (ho : o.op = .call { callee := .builtin .append, args := #[s, x], argTypes := #[t, tx] })
  (base e e' : TypeId) (i : TypeInfo) (ht : P.underlying t = some (.slice e)) (htx : P.underlying tx = some (.slice e')) (hi : P.info? e = some i) (hz : i.zero = some (.int .i64 0)) (hz1 : i.size = 1) (hz2 : i.bytes = 8)
  (A : Option Addr) (n c : Nat) (xs : List Nat) (hs : a.eval s = .slice A n c) (hown : w.ownsRow base e 1 (.slice A n c) n (valsI xs))
  (B : Nat) (A' : Option Addr) (m c' : Nat) (ys : List Nat) (hx : a.eval x = .slice A' m c') (hy : Dig w B A' m c' ys) (hlen : n + m ≤ 1000000000000) (hbase : base ≤ w.heap.size)
  (hK : ∀ A2 c2 w', w'.ownsRow base e 1 (.slice A2 (n + m) c2) (n + m) (valsI (xs ++ ys)) → w.grownBy w' (Value.slice A n c).ownBlock → K (a.put o.dst (.slice A2 (n + m) c2)) w') : Oper.wp P o a w K Q := by
 cases A' with
 | none =>
  have hc := hy.addr rfl
  have hm : m = 0 := by have := hy.cap; omega
  subst hc; subst hm
  obtain rfl : ys = [] := List.eq_nil_of_length_eq_zero hy.len
  have hrun := run_append_owned_none (P := P) (w := w) base t o.type e i 1 ht hi _ n (valsI xs) hown
  rw [← append_types ht htx hi] at hrun
  unfold Oper.wp execOp
  simp only [ho, resolve, invoke, builtin, Sem.run_bind, Sem.run_pure, Result.andThen_ok, List.map_toArray, List.map_cons, List.map_nil, hs, hx, hrun]
  exact hK A c w (by simpa using hown) (World.grownBy.refl _ _)
 | some ad =>
  have hcells : ∀ j u, (valsI ys)[j]? = some u → w.cell? (ad.add j) = some u := by
   intro j u hu
   rcases hy.row with h0 | ⟨b, o', he, _, hc⟩
   ·rw [h0] at hu; simp at hu
   ·injection he with he
    subst he
    rw [Addr.add_lit]
    exact hc j u hu
  obtain ⟨v', w', hr, h2, h3, _⟩ := run_append_own (P := P) w base t o.type e i (.int .i64 0) 1 8 ht hi hz hz1 hz2 rfl (by decide) _ n (valsI xs) hown ad m c' (valsI ys) (by rw [valsI_len, hy.len, Nat.mul_one]) hcells (valsI_one ys) (by unfold maxLen; omega) (by omega) hbase
  rw [← append_types ht htx hi] at hr
  obtain ⟨A2, c2, rfl⟩ := own_shape h2
  rw [← valsI_append] at h2
  unfold Oper.wp execOp
  simp only [ho, resolve, invoke, builtin, Sem.run_bind, Sem.run_pure, Result.andThen_ok, List.map_toArray, List.map_cons, List.map_nil, hs, hx, hr]
  exact hK A2 c2 w' h2 h3
theorem step_append_dig {ops : Array Oper} {K : Act → World → Prop} {Q : Exit → Act → World → Prop} {E : Prop} (hgd : o.guard = none) (s x : Operand) (t tx : TypeId)
  (ho : o.op = .call { callee := .builtin .append, args := #[s, x], argTypes := #[t, tx] })
  (base e e' : TypeId) (i : TypeInfo) (ht : P.underlying t = some (.slice e)) (htx : P.underlying tx = some (.slice e')) (hi : P.info? e = some i) (hz : i.zero = some (.int .i64 0)) (hz1 : i.size = 1) (hz2 : i.bytes = 8)
  (A : Option Addr) (n c : Nat) (xs : List Nat) (hs : a.eval s = .slice A n c) (hown : w.ownsRow base e 1 (.slice A n c) n (valsI xs))
  (B : Nat) (A' : Option Addr) (m c' : Nat) (ys : List Nat) (hx : a.eval x = .slice A' m c') (hy : Dig w B A' m c' ys) (hlen : n + m ≤ 1000000000000) (hbase : base ≤ w.heap.size)
  (hK : ∀ A2 c2 w', w'.ownsRow base e 1 (.slice A2 (n + m) c2) (n + m) (valsI (xs ++ ys)) → w.grownBy w' (Value.slice A n c).ownBlock → K (a.put o.dst (.slice A2 (n + m) c2)) w') :
  if Region.wanted o (yielded ops a.tmps) = true then Oper.wp P o a w K Q else E := by
 have hw : Region.wanted o (yielded ops a.tmps) = true := by simp [Region.wanted, hgd]
 rw [if_pos hw]
 exact wp_append_dig s x t tx ho base e e' i ht htx hi hz hz1 hz2 A n c xs hs hown B A' m c' ys hx hy hlen hbase hK
end
theorem ten_noughts (k : Nat) (xs : List Nat) : ten (List.replicate k 0 ++ xs) = ten xs * 10 ^ k := by
 rw [ten_append, ten_zeros, List.length_replicate, Nat.zero_add, Nat.mul_comm]
theorem gd_noughts {k M : Nat} {xs : List Nat} (h : ∀ j, gd xs j ≤ M) : ∀ j, gd (List.replicate k 0 ++ xs) j ≤ M := by
 intro j
 rw [gd_append]
 split
 ·rw [gd_zeros]; omega
 ·exact h _
theorem shift_ten {a k : Nat} {xs : List Nat} (h : ten xs = a) : ten (List.replicate k 0 ++ xs) = a * 10 ^ k := by rw [ten_noughts, h]
theorem made_first {w w2 : World} {Z : Array Value} {k : Nat} {xs : List Nat} (HZ : Hid (Z.toList = valsI xs)) (HS : Hid (Z.size = k * 1)) (HB : Hid (Below ((w.alloc (.cells Z 3)).drew).heap.size (w.alloc (.cells Z 3)).drew w2)) (hk : k ≤ 1000000) :
  w2.ownsRow w.heap.size 3 1 (.slice (some ⟨w.heap.size, 0, none⟩) k k) k (valsI xs) ∧ Below w.heap.size w w2 := by
 have h := World.ownsRow_lit (base := w.heap.size) (e := 3) (size := 1) w Z k (Nat.le_refl _) (by unfold maxLen; omega) HS.out
 rw [HZ.out] at h
 have h2 : (w.alloc (.cells Z 3)).drew.ownsRow w.heap.size 3 1 (.slice (some ⟨w.heap.size, 0, none⟩) k k) k (valsI xs) := h
 refine ⟨own_below h2 HB.out, ?_⟩
 have h3 : Below w.heap.size w (w.alloc (.cells Z 3)).drew := ((Below.refl _ _).alloc (Nat.le_refl _) _).drew
 exact h3.trans (HB.out.mono h3.size)
theorem made_last {w w2 : World} {Z : Array Value} {k : Nat} {xs : List Nat} (HZ : Hid (Z.toList = valsI xs)) (HS : Hid (Z.size = k * 1)) (HB : Hid (Below w.drew.heap.size w.drew w2)) (hk : k ≤ 1000000) :
  (w2.alloc (.cells Z 3)).ownsRow w.heap.size 3 1 (.slice (some ⟨w2.heap.size, 0, none⟩) k k) k (valsI xs) ∧ Below w.heap.size w (w2.alloc (.cells Z 3)) ∧ w.heap.size ≤ w2.heap.size := by
 have hs : w.heap.size ≤ w2.heap.size := HB.out.size
 have h := World.ownsRow_lit (base := w.heap.size) (e := 3) (size := 1) w2 Z k hs (by unfold maxLen; omega) HS.out
 rw [HZ.out] at h
 have h3 : Below w.heap.size w w2 := (Below.refl _ _).drew.trans HB.out
 exact ⟨h, h3.alloc hs _, hs⟩
theorem refShift_any (A : Option Addr) (n c a k : Nat) (w : World) (h : Num w w.heap.size A n c a) (hn : n ≤ 1000000) (hk : k ≤ 1000000) :
  Calls Tryz.prog 57 #[.slice A n c, .int .i64 k] w (RetSub w (a * 10 ^ k)) := by
 obtain ⟨i0, hi, hz0, hz1, hz2⟩ := info_parts info_int
 have DG : Hid (∀ v, Below w.heap.size w v → Calls Tryz.prog 93 #[.slice A n c] v (RetDig v (9 * n) a)) := fun v hv => digits_any A n c a v ((h.below hv).more hv.size) hn
 obtain ⟨Z, hZ⟩ : ∃ Z, Z = madeCells #[Value.int .i64 0] k := ⟨_, rfl⟩
 have hmk : ∀ v : World, (Instr.makeSlice 116 (.int .i64 (k : Int)) (.int .i64 (k : Int))).run Tryz.prog v = .ok (.slice (some ⟨v.heap.size, 0, none⟩) k k) (v.alloc (.cells Z 3)) := by
  intro v
  have := run_make (P := Tryz.prog) (w := v) 116 3 i0 (.int .i64 0) Tryz.underlying116 hi hz0 .i64 .i64 k k (by omega) (Int.le_refl _) (by rw [hz2]; omega) (by omega)
  rw [this, hz1, Nat.mul_one, hZ, Int.toNat_natCast]; rfl
 have HZ : Hid (Z.toList = valsI (List.replicate k 0)) := by show _ = _; rw [hZ, toList_madeCells_one]; simp [valsI]
 have HS : Hid (Z.size = k * 1) := by show _ = _; rw [hZ]; simp [madeCells]
 clear h hZ
 go_enter Tryz.func57, Tryz.ntmps57
 go_wp2
 go_region_law (first | (go_simp; go_at_call 93; refine (DG.out _ ?_).mono ?_; (first | exact ((Below.refl _ _).alloc (Nat.le_refl _) _).drew | exact (Below.refl _ _).drew); rintro e w2 ⟨A2, c2, xs, rfl, ho, hl, hd, ht, hb⟩; have X2 := Lib.hid (Dig.of_own ho); have D2 := Lib.hid hd; have T2 := Lib.hid ht; have HB2 := Lib.hid hb; clear ho hl hd ht hb) | (refine step_append_dig rfl (.tmp 9) (.tmp 11) 116 116 rfl w.heap.size 3 3 i0 Tryz.underlying116 Tryz.underlying116 hi hz0 hz1 hz2 _ k k (List.replicate k 0) rfl ?_ w2.heap.size A2 (9 * n) c2 xs rfl ?_ ?_ ?_ ?_; (first | exact (made_first HZ HS HB2 hk).1 | exact (made_last HZ HS HB2 hk).1); (first | exact X2.out | exact X2.out.below ((Below.refl _ _).alloc (Nat.le_refl _) _)); omega; (first | exact (made_first HZ HS HB2 hk).2.size | exact (made_last HZ HS HB2 hk).2.1.size); intro A3 c3 w3 hown hgr; have X3 := Lib.hid (Dig.of_own hown); have HB3 : Hid (Below w.heap.size w w3) := (by first | exact (made_first HZ HS HB2 hk).2.grown hgr (made_first HZ HS HB2 hk).2.size (fun g hg => own_block_le hg) | exact (made_last HZ HS HB2 hk).2.1.grown hgr (made_last HZ HS HB2 hk).2.1.size (fun g hg => Nat.le_trans (made_last HZ HS HB2 hk).2.2 (own_block_le hg))); clear hown hgr) | (go_simp; go_at_call 92; refine (number_any A3 (k + 9 * n) c3 9 (List.replicate k 0 ++ xs) w3 X3.out ?_ ?_ ?_).mono ?_; omega; omega; exact gd_noughts (fun j => Nat.le_of_lt_succ (D2.out j)); rintro e w4 ⟨A4, n4, c4, rfl, h4, hb4⟩; have H4 := Lib.hid h4; have HB4 := Lib.hid (HB3.out.trans (hb4.mono HB3.out.size)); have HE := Lib.hid (shift_ten (k := k) T2.out); clear h4 hb4))
 all_goals
  go_wp2
  go_ret2
  exact ⟨_, _, _, rfl, by rw [← HE.out]; exact H4.out, HB4.out⟩
theorem refShift_is {A : Option Addr} {n c a k m : Nat} {v : Int} {w : World} (h : Num w w.heap.size A n c a) (hn : n ≤ 1000000) (hk : k ≤ 1000000) (hv : v = k) (hm : a * 10 ^ k = m) :
  Calls Tryz.prog 57 #[.slice A n c, .int .i64 v] w (RetSub w m) := by
 subst hm; subst hv; exact refShift_any A n c a k w h hn hk
end Go.Proofs.YtdpkbglfebimcaaGreatDoor.Num
