/-
  The walk of the law NatTrims.
-/
import Derived.Test.YtlkkoflkngaamaaNatI
import Derived.Maps.AppendAt
namespace Go.Proofs.Ytlkkoflkngaamaa
open Go.RowKit

theorem Lim.go_ {w w' : World} {n c : Nat} {A : Option Addr} {xs : List Nat} (h : Hid (Lim w w.heap.size A n c xs)) (hb : Below w.heap.size w w') : Hid (Lim w' w'.heap.size A n c xs) := (h.out.below hb).more hb.size
theorem own_fit {zs : List Nat} (h : limbs zs) : ∀ x ∈ zs, x < 4294967296 := fun x hx => by have := h x hx; omega

/-- The same, and where the row lies then. -/
theorem wpList_append_lim_at {P : Program} {w : World} {ops : Array Oper} {rest : List Oper} {o : Oper} {a : Act} {Q : Exit → Act → World → Prop} (hgd : o.guard = none) (s x : Operand) (t tx : TypeId)
    (ho : o.op = .call { callee := .builtin .append, args := #[s, x], argTypes := #[t, tx] })
    (base e e' : TypeId) (i : TypeInfo) (ht : P.underlying t = some (.slice e)) (htx : P.underlying tx = some (.slice e')) (hi : P.info? e = some i) (hz : i.zero = some (.int .u32 0)) (hz1 : i.size = 1) (hz2 : i.bytes = 4)
    (A : Option Addr) (n c : Nat) (xs : List Nat) (hs : a.eval s = .slice A n c) (hown : w.ownsRow base e 1 (.slice A n c) n (vals xs))
    (B : Nat) (A' : Option Addr) (m c' : Nat) (ys : List Nat) (hx : a.eval x = .slice A' m c') (hy : Lim w B A' m c' ys) (hlen : n + m ≤ 1000000000000) (hbase : base ≤ w.heap.size)
    (h : ∀ A2 c2 w', w'.ownsRow base e 1 (.slice A2 (n + m) c2) (n + m) (vals (xs ++ ys)) → w.grownBy w' (Value.slice A n c).ownBlock → ((Value.slice A2 (n + m) c2).ownBlock = (Value.slice A n c).ownBlock ∨ (Value.slice A2 (n + m) c2).ownBlock = some w.heap.size) → wpList P ops Q rest (a.put o.dst (.slice A2 (n + m) c2)) w') : wpList P ops Q (o :: rest) a w := by
  refine wpList_plain hgd fun K hK => ?_
  cases A' with
  | none =>
    have hc := hy.addr rfl
    have hm : m = 0 := by have := hy.cap; omega
    subst hc; subst hm
    obtain rfl : ys = [] := List.eq_nil_of_length_eq_zero hy.len
    have hrun := run_append_owned_none (P := P) (w := w) base t o.type e i 1 ht hi _ n (vals xs) hown
    rw [← append_types ht htx hi] at hrun
    unfold Oper.wp execOp
    simp only [ho, resolve, invoke, builtin, Sem.run_bind, Sem.run_pure, Result.andThen_ok, List.map_toArray, List.map_cons, List.map_nil, hs, hx, hrun]
    exact hK _ _ (h A c w (by simpa using hown) (World.grownBy.refl _ _) (.inl rfl))
  | some ad =>
    have hcells : ∀ j u, (vals ys)[j]? = some u → w.cell? (ad.add j) = some u := by
      intro j u hu
      rcases hy.row with h0 | ⟨b, o', he, _, hc⟩
      · rw [h0] at hu; simp at hu
      · injection he with he
        subst he
        rw [Addr.add_lit]
        exact hc j u hu
    obtain ⟨v', w', hr, h2, h3, _, h5⟩ := run_append_own_at (P := P) w base t o.type e i (.int .u32 0) 1 4 ht hi hz hz1 hz2 rfl (by decide) _ n (vals xs) hown ad m c' (vals ys) (by rw [vals_len, hy.len, Nat.mul_one]) hcells (vals_one ys) (by unfold maxLen; omega) (by omega) hbase
    rw [← append_types ht htx hi] at hr
    obtain ⟨A2, c2, rfl⟩ := own_shape h2
    rw [← vals_append] at h2
    unfold Oper.wp execOp
    simp only [ho, resolve, invoke, builtin, Sem.run_bind, Sem.run_pure, Result.andThen_ok, List.map_toArray, List.map_cons, List.map_nil, hs, hx, hr]
    exact hK _ _ (h A2 c2 w' h2 h3 h5)

/-- The rows of two slices are not one. -/
def Apart (v v' : Value) : Prop := v'.ownBlock = none ∨ v'.ownBlock ≠ v.ownBlock
theorem apart_start {w : World} {base' : Nat} {e : TypeId} {v v' : Value} {n' : Nat} {xs' : List Value} (h' : w.ownsRow base' e 1 v' n' xs') (hlt : ∀ g, v.ownBlock = some g → g < base') : Apart v v' := by
  unfold Apart
  cases hv : v'.ownBlock with
  | none => exact .inl rfl
  | some k =>
    right
    intro he
    have h1 := h'.lt k hv
    have h2 := hlt k he.symm
    omega
theorem apart_step {w : World} {base' : Nat} {e : TypeId} {v v2 v' : Value} {n' : Nat} {xs' : List Value} (h' : w.ownsRow base' e 1 v' n' xs') (h : Apart v v') (h2 : v2.ownBlock = v.ownBlock ∨ v2.ownBlock = some w.heap.size) : Apart v2 v' := by
  unfold Apart at *
  rcases h with h | h
  · exact .inl h
  · rcases h2 with h2 | h2
    · right; rw [h2]; exact h
    · cases hv : v'.ownBlock with
      | none => exact .inl rfl
      | some k =>
        right
        intro he
        have h1 := h'.lt k hv
        rw [h2] at he
        injection he with he
        omega
theorem val_nought (zs : List Nat) : val (zs ++ [0]) = val zs := by rw [val_append]; simp [val]

theorem refSame_is {A A' : Option Addr} {n c n' c' a b : Nat} {w : World} (h : Num w w.heap.size A n c a) (h' : Num w w.heap.size A' n' c' b) (hs : a = b) :
    Calls Try.prog 11 #[.slice A n c, .slice A' n' c'] w (RetVal w (.bool true)) := by
  have := refSame_any A A' n c n' c' a b w h h'
  rwa [decide_eq_true hs] at this
theorem refTrim_is {A : Option Addr} {n c m : Nat} {xs : List Nat} {w : World} (h : Hid (Lim w w.heap.size A n c xs)) (hx : Hid (limbs xs)) (hn : n ≤ 1000000000) (hm : val xs = m) :
    Calls Try.prog 26 #[.slice A n c] w (RetNum w m) := by
  subst hm; exact refTrim_any n A n c xs w h hx (Nat.le_refl _) hn

set_option maxHeartbeats 2000000 in
set_option maxRecDepth 100000 in
theorem trims_any (A : Option Addr) (n c N more : Nat) (xs : List Nat) (w : World) (h : Hid (Lim w w.heap.size A n c xs)) (hN : Hid (N < 18446744073709551616)) (hmore : more < 256) :
    Calls Try.prog 6 #[.slice A n c, .int .u64 N, .int .u8 more] w (RetVal w (.bool true)) := by
  obtain ⟨i0, hi, hz0, hz1, hz2⟩ := info_parts info_limb
  have hm := h.out.room
  have hn := h.out.cap
  unfold maxLen at hm
  by_cases hl : 60 < n
  · go_enter Try.func6, Try.ntmps6
    go_wp2_with (go_at_call 8; refine (awake_any _).mono ?_; rintro e w' ⟨rfl, hb⟩; have HB := Lib.hid hb; clear hb)
    go_ret
    exact ⟨rfl, HB.out⟩
  · go_enter Try.func6, Try.ntmps6
    go_wp2
    go_loopw [7, 19] (fun v iv wr => ∃ (k : Nat) (A2 : Option Addr) (c2 : Nat) (zs : List Nat), k ≤ n ∧ iv = .int .i64 k ∧ v = .slice A2 k c2 ∧ wr.ownsRow w.heap.size 38 1 (.slice A2 k c2) k (vals zs) ∧ limbs zs ∧ Below w.heap.size w wr) (fun _ iv _ => n - (intOf iv).toNat)
    case atStart => exact ⟨0, none, 0, [], Nat.zero_le _, rfl, rfl, World.ownsRow_nil _ _ _ _, limbs_nil, Below.refl _ _⟩
    case round =>
      obtain ⟨k, A2, c2, zs, hk, rfl, rfl, hown, hlim, hb⟩ := hrel
      have HO := Lib.hid hown
      have HL := Lib.hid hlim
      have HB := Lib.hid hb
      clear hown hlim hb
      rcases Nat.lt_or_ge k n with hkn | hkn
      · obtain ⟨b, o, rfl, _, hc⟩ := (h.out.below HB.out).at_ hkn
        have hg := h.out.gd_lt k
        go_wp2_with (at_builtin; go_must (refine wpList_append_lim rfl (.tmp 23) (.tmp 26) 22 22 rfl w.heap.size 38 38 i0 Try.underlying22 Try.underlying22 hi hz0 hz1 hz2 A2 k c2 zs rfl (HO.out.alloc _) _ _ 1 1 [gd xs k % 1000000000] rfl (Lim.one _ _ _ (by omega) (by omega) _) (by omega) (Nat.le_trans HB.out.size (by simp)) ?_; intro A3 c3 w3 hown hgr))
        go_roundw
        case rel => exact ⟨k + 1, A3, c3, _, by omega, by go_num, rfl, hown, limbs_append.2 ⟨HL.out, limbs_cons.2 ⟨by omega, limbs_nil⟩⟩, (HB.out.alloc HB.out.size _).grown hgr (Nat.le_trans HB.out.size (by simp)) (fun g hg => (HO.out.lt g hg).1)⟩
        case measure => simp [intOf]; omega
      · obtain rfl : k = n := by omega
        go_wp2_with fail
        refine (trim_own A2 k c2 zs _ (Lim.of_own HO.out (own_fit HL.out)) HL.out (by omega)).mono ?_; rintro e w1 ⟨A3, n3, c3, rfl, ho3, hb3⟩
        have HT := Lib.hid ho3
        have HO1 := Lib.hid (own_below HO.out hb3)
        have HB1 := Lib.hid (HB.out.trans (hb3.mono HB.out.size))
        have HS : Hid (∀ g, (Value.slice A2 k c2).ownBlock = some g → g < wr.heap.size) := fun g hg => (HO.out.lt g hg).2
        clear ho3 hb3
        have AP : Hid (Apart (.slice A2 k c2) (.slice A3 n3 c3)) := apart_start (w := w1) HT.out HS.out
        clear HS
        obtain ⟨wo, rfl⟩ : ∃ wo : World, wo = wr := ⟨_, rfl⟩
        go_wp2
        go_loopw [7, 33] (fun v jv wv => ∃ (j : Nat) (A4 : Option Addr) (c4 : Nat) (ys : List Nat), j ≤ more % 9 ∧ jv = .int .u8 j ∧ v = .slice A4 (k + j) c4 ∧ wv.ownsRow w.heap.size 38 1 (.slice A4 (k + j) c4) (k + j) (vals ys) ∧ limbs ys ∧ val ys = val zs ∧ wv.ownsRow wo.heap.size 38 1 (.slice A3 n3 c3) n3 (vals (dg (val zs))) ∧ Apart (.slice A4 (k + j) c4) (.slice A3 n3 c3) ∧ Below w.heap.size w wv) (fun _ jv _ => more % 9 - (intOf jv).toNat)
        case atStart => exact ⟨0, A2, c2, zs, Nat.zero_le _, rfl, rfl, HO1.out, HL.out, rfl, HT.out, AP.out, HB1.out⟩
        case round =>
          obtain ⟨j, A4, c4, ys, hj, rfl, rfl, hown, hlim, hval, hT, hA, hb⟩ := hrel
          clear HO HO1 HT AP HB1
          have HO := Lib.hid hown
          have HLY := Lib.hid hlim
          have HV := Lib.hid hval
          have HT := Lib.hid hT
          have HA := Lib.hid hA
          have HB1 := Lib.hid hb
          clear hown hlim hval hT hA hb
          rcases Nat.lt_or_ge j (more % 9) with hjn | hjn
          · go_wp2_with (at_builtin; go_must (refine wpList_append_lim_at rfl (.tmp 35) (.tmp 36) 22 22 rfl w.heap.size 38 38 i0 Try.underlying22 Try.underlying22 hi hz0 hz1 hz2 A4 (k + j) c4 ys rfl (HO.out.alloc _) _ _ 1 1 [0] rfl (Lim.one _ 0 0 rfl (by omega) _) (by omega) (Nat.le_trans HB1.out.size (by simp)) ?_; intro A5 c5 w3 hown hgr hblk))
            go_roundw
            case rel => exact ⟨j + 1, A5, c5, ys ++ [0], by omega, by go_num, rfl, hown, limbs_append.2 ⟨HLY.out, limbs_cons.2 ⟨by omega, limbs_nil⟩⟩, (val_nought ys).trans HV.out, (HT.out.alloc _).kept hgr HA.out, apart_step (HT.out.alloc _) HA.out hblk, (HB1.out.alloc HB1.out.size _).grown hgr (Nat.le_trans HB1.out.size (by simp)) (fun g hg => (HO.out.lt g hg).1)⟩
            case measure => simp [intOf]; omega
          · obtain rfl : j = more % 9 := by omega
            have HM : Hid (Lim wr wr.heap.size A4 (k + more % 9) c4 ys) := Lim.of_own HO.out (own_fit HLY.out)
            have E : Hid (Env w wr [(A3, n3, c3, val zs)]) := ⟨HB1.out, fun q hq => by rcases List.mem_cons.1 hq with rfl | hq; exact Lim.of_own HT.out (own_fit (limbs_dg _)); cases hq⟩
            have hk9 : k + more % 9 ≤ 100 := by omega
            generalize k + more % 9 = r at *
            clear HO HT HA HB1 hj hjn
            go_wp2_with fail
            refine (make_any N hN _).mono ?_; rintro e w2 ⟨A5, n5, c5, rfl, h5, hb⟩; replace E := Env.push E hb h5; replace HM := Lim.go_ HM hb
            clear h5 hb
            go_wp2_with fail
            refine (small_yes A5 n5 c5 N _ (Env.get E (by simp)) (by have := hN.out; unfold top64; omega)).mono ?_; rintro e w3 ⟨rfl, hb⟩; replace E := Env.step E hb; replace HM := Lim.go_ HM hb
            clear hb
            go_wp2_with fail
            refine (right_is (xs := dg (val zs)) (t := true) (Env.get E (by simp)) (right_dg _)).mono ?_; rintro e w' ⟨rfl, rfl⟩
            go_wp2_with fail
            refine (refTrim_is (m := val zs) HM HLY (by omega) HV.out).mono ?_; rintro e w4 ⟨A6, n6, c6, rfl, h6, hb⟩; replace E := Env.push E hb h6; replace HM := Lim.go_ HM hb
            clear h6 hb
            go_wp2_with fail
            refine (refSame_is (A := A3) (A' := A6) (a := val zs) (b := val zs) (Env.get E (by simp)) (Env.get E (by simp)) rfl).mono ?_; rintro e w5 ⟨rfl, hb⟩; replace E := Env.step E hb; replace HM := Lim.go_ HM hb
            clear hb
            go_wp2_with fail
            refine (trim_is (m := val zs) HM.out HLY.out (by omega) HV.out).mono ?_; rintro e w6 ⟨A7, n7, c7, rfl, h7, hb⟩; replace E := Env.push E hb h7
            clear h7 hb
            go_wp2_with fail
            refine (refSame_is (A := A7) (A' := A3) (a := val zs) (b := val zs) (Env.get E (by simp)) (Env.get E (by simp)) rfl).mono ?_; rintro e w7 ⟨rfl, hb⟩; replace E := Env.step E hb
            clear hb
            go_wp2_with fail
            refine (awake_any _).mono ?_; rintro e w8 ⟨rfl, hb⟩; replace E := Env.step E hb
            clear hb
            go_wp2_with fail
            go_ret
            exact ⟨rfl, E.out.1⟩

end Go.Proofs.Ytlkkoflkngaamaa
