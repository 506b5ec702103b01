/- What the proofs of this layer need of the layer Nat, in one text. -/
import Derived.Test.YtjkandnbjbfeiaaDoorAllNatC
import Derived.Laws.AppendOwnNone
import Derived.Deep.DeepMust
set_option linter.unusedVariables false
set_option linter.unusedSimpArgs false

/-
  A law on append for slices of limbs; contracts of layer 1 that make limbs, the first part: cut, Trim, Make.
-/
namespace Go.Proofs.YtjkandnbjbfeiaaDoor.Num
open Go.RowKit

theorem append_types {P : Program} {w : World} {t tx ty e e' : TypeId} {i : TypeInfo} (ht : P.underlying t = some (.slice e)) (htx : P.underlying tx = some (.slice e')) (hi : P.info? e = some i) (A : Option Addr) (n c : Nat) (x : Value) :
    (Builtin.append_ #[t, tx] ty #[.slice A n c, x]).run P w = (Builtin.append_ #[t, t] ty #[.slice A n c, x]).run P w := by
  simp [Builtin.append_, run_underlying ht, run_underlying htx, sizeOf, typeInfo, hi]

theorem own_shape {w : World} {base e : Nat} {v : Value} {n : Nat} {xs : List Value} (h : w.ownsRow base e 1 v n xs) : ∃ A c, v = .slice A n c := by
  rcases h.2 with ⟨rfl, rfl⟩ | ⟨g, cap, cur, rfl, _⟩
  · exact ⟨_, _, rfl⟩
  · exact ⟨_, _, rfl⟩

/-- 'append' of limbs to limbs of the call's own, nil or not. -/
theorem wpList_append_lim {P : Program} {w : World} {ops : Array Oper} {rest : List Oper} {o : Oper} {a : Act} {Q : Exit → Act → World → Prop} (hgd : o.guard = none) (s x : Operand) (t tx : TypeId)
    (ho : o.op = .call { callee := .builtin .append, args := #[s, x], argTypes := #[t, tx] })
    (base e e' : TypeId) (i : TypeInfo) (ht : P.underlying t = some (.slice e)) (htx : P.underlying tx = some (.slice e')) (hi : P.info? e = some i) (hz : i.zero = some (.int .u32 0)) (hz1 : i.size = 1) (hz2 : i.bytes = 4)
    (A : Option Addr) (n c : Nat) (xs : List Nat) (hs : a.eval s = .slice A n c) (hown : w.ownsRow base e 1 (.slice A n c) n (vals xs))
    (B : Nat) (A' : Option Addr) (m c' : Nat) (ys : List Nat) (hx : a.eval x = .slice A' m c') (hy : Lim w B A' m c' ys) (hlen : n + m ≤ 1000000000000) (hbase : base ≤ w.heap.size)
    (h : ∀ A2 c2 w', w'.ownsRow base e 1 (.slice A2 (n + m) c2) (n + m) (vals (xs ++ ys)) → w.grownBy w' (Value.slice A n c).ownBlock → wpList P ops Q rest (a.put o.dst (.slice A2 (n + m) c2)) w') : wpList P ops Q (o :: rest) a w := by
  refine wpList_plain hgd fun K hK => ?_
  cases A' with
  | none =>
    have hc := hy.addr rfl
    have hm : m = 0 := by have := hy.cap; omega
    subst hc; subst hm
    obtain rfl : ys = [] := List.eq_nil_of_length_eq_zero hy.len
    have hrun := run_append_owned_none (P := P) (w := w) base t o.type e i 1 ht hi _ n (vals xs) hown
    rw [← append_types ht htx hi] at hrun
    unfold Oper.wp execOp
    simp only [ho, resolve, invoke, builtin, Sem.run_bind, Sem.run_pure, Result.andThen_ok, List.map_toArray, List.map_cons, List.map_nil, hs, hx, hrun]
    exact hK _ _ (h A c w (by simpa using hown) (World.grownBy.refl _ _))
  | some ad =>
    have hcells : ∀ j u, (vals ys)[j]? = some u → w.cell? (ad.add j) = some u := by
      intro j u hu
      rcases hy.row with h0 | ⟨b, o', he, _, hc⟩
      · rw [h0] at hu; simp at hu
      · injection he with he
        subst he
        rw [Addr.add_lit]
        exact hc j u hu
    obtain ⟨v', w', hr, h2, h3, _⟩ := run_append_own (P := P) w base t o.type e i (.int .u32 0) 1 4 ht hi hz hz1 hz2 rfl (by decide) _ n (vals xs) hown ad m c' (vals ys) (by rw [vals_len, hy.len, Nat.mul_one]) hcells (vals_one ys) (by unfold maxLen; omega) (by omega) hbase
    rw [← append_types ht htx hi] at hr
    obtain ⟨A2, c2, rfl⟩ := own_shape h2
    rw [← vals_append] at h2
    unfold Oper.wp execOp
    simp only [ho, resolve, invoke, builtin, Sem.run_bind, Sem.run_pure, Result.andThen_ok, List.map_toArray, List.map_cons, List.map_nil, hs, hx, hr]
    exact hK _ _ (h A2 c2 w' h2 h3)

theorem Lim.one (w : World) (x : Nat) (v : Int) (hv : v = x) (hx : x < 4294967296) (t : TypeId) : Lim (w.alloc (.cells #[.int .u32 v] t)) (w.heap.size + 1) (some ⟨w.heap.size, 0, none⟩) 1 1 [x] := by
  subst hv
  refine ⟨rfl, Nat.le_refl _, by simp [maxLen], by simpa using hx, .inr ⟨w.heap.size, 0, rfl, Nat.lt_succ_self _, fun j u hu => ?_⟩, fun h => by cases h⟩
  match j, hu with
  | 0, hu =>
    simp [vals] at hu
    subst hu
    rw [cell_of_row _ w.heap.size 0 _ t (0, 0) (heap_alloc_new w _)]
    rfl

set_option maxRecDepth 100000 in
theorem cut_any (A : Option Addr) (n c B : Nat) (xs : List Nat) (w : World) (h : Lim w B A n c xs) (hx : limbs xs) :
    Calls Tryd.prog 62 #[.slice A n c] w fun e w' => (∃ A' n' c', e = .returned (.slice A' n' c') ∧ n' ≤ n ∧ Lim w B A' n' c' (dg (val xs))) ∧ w = w' := by
  have hm := h.room
  have hn := h.cap
  unfold maxLen at hm
  have Z : Hid (∀ j, n ≤ j → gd xs j = 0) := fun j hj => gd_of_ge (by rw [h.len]; exact hj)
  go_enter Tryd.func62, Tryd.ntmps62
  go_wp2
  go_loop [3] (fun i => ∃ k : Nat, k ≤ n ∧ i = .int .i64 k ∧ ∀ j, k ≤ j → gd xs j = 0) (fun i => (intOf i).toNat)
  case atStart => exact ⟨n, Nat.le_refl _, rfl, Z.out⟩
  case round =>
    obtain ⟨k, hk, rfl, hall⟩ := hrel
    have HALL := Lib.hid hall
    have H := Lib.hid h
    have hg := h.gd_lt (k - 1)
    clear hall Z
    rcases Nat.eq_zero_or_pos k with h0 | h0
    · subst h0
      clear h hg
      go_wp2
      go_ret
      exact ⟨⟨none, 0, 0, rfl, Nat.zero_le _, by have := dg_cut hx HALL.out (.inl rfl) (Nat.zero_le _); rw [this]; exact Lim.nil⟩, rfl⟩
    · obtain ⟨b, o, rfl, _, hc⟩ := h.at_ (show k - 1 < n by omega)
      clear h
      by_cases hz : gd xs (k - 1) = 0
      · go_wp2
        go_round
        case rel =>
          refine ⟨k - 1, by omega, by go_num, fun j hj => ?_⟩
          rcases Nat.lt_or_ge j k with h1 | h1
          · obtain rfl : j = k - 1 := by omega
            exact hz
          · exact HALL.out j h1
        case measure => simp [intOf]; omega
      · go_wp2
        go_ret
        exact ⟨⟨_, _, _, rfl, hk, by rw [dg_cut hx HALL.out (.inr hz) (by have := H.out.len; omega)]; exact H.out.take hk⟩, rfl⟩

theorem info_limb : (Tryd.prog.info? 88).map (fun i => (i.zero, i.size, i.bytes)) = some (some (.int .u32 0), 1, 4) := by kernel_rfl

/-- Limbs in a row of the call's own. -/
def RetOwn (W : World) (xs : List Nat) (e : Ending) (w' : World) : Prop :=
  ∃ A n c, e = .returned (.slice A n c) ∧ w'.ownsRow W.heap.size 88 1 (.slice A n c) n (vals xs) ∧ Below W.heap.size W w'

set_option maxRecDepth 100000 in
theorem trim_own (A : Option Addr) (n c : Nat) (xs : List Nat) (w : World) (h : Lim w w.heap.size A n c xs) (hx : limbs xs) (hn : n ≤ 1000000000) :
    Calls Tryd.prog 57 #[.slice A n c] w (RetOwn w (dg (val xs))) := by
  obtain ⟨i0, hi, hz0, hz1, hz2⟩ := info_parts info_limb
  have H := Lib.hid h
  have HX := Lib.hid hx
  clear h hx
  go_enter Tryd.func57, Tryd.ntmps57
  go_wp2_with (first | (go_at_call 62; refine (cut_any A n c _ xs _ H.out HX.out).mono ?_; rintro e w' ⟨⟨A', n', c', rfl, hn', h'⟩, rfl⟩; have H' := Lib.hid h'; clear h') | (at_builtin; refine wpList_append_lim rfl (.const (.slice none 0 0)) (.tmp 4) 65 65 rfl w.heap.size 88 88 i0 Tryd.underlying65 Tryd.underlying65 hi hz0 hz1 hz2 none 0 0 [] rfl (World.ownsRow_nil _ _ _ _) _ A' n' c' (dg (val xs)) rfl H'.out (by omega) (Nat.le_refl _) ?_; intro A2 c2 w2 hown hgr; simp only [Nat.zero_add, List.nil_append] at hown))
  go_ret
  exact ⟨_, _, _, rfl, hown, (Below.refl _ _).grown hgr (Nat.le_refl _) (fun k hk => by cases hk)⟩

set_option maxRecDepth 100000 in
theorem trim_any (A : Option Addr) (n c : Nat) (xs : List Nat) (w : World) (h : Lim w w.heap.size A n c xs) (hx : limbs xs) (hn : n ≤ 1000000000) :
    Calls Tryd.prog 57 #[.slice A n c] w (RetLim w (dg (val xs))) :=
  (trim_own A n c xs w h hx hn).mono fun _ _ ⟨A', n', c', he, ho, hb⟩ => ⟨A', n', c', he, Lim.of_own ho (fun x hx => by have := limbs_dg _ x hx; omega), hb⟩

theorem make_step {N m : Nat} {xs : List Nat} (h : xs ++ dg m = dg N) (hm : 0 < m) : (xs ++ [m % 1000000000]) ++ dg (m / 1000000000) = dg N := by
  rw [dg_pos hm] at h
  rw [List.append_assoc, ← h]; rfl
theorem make_len {N m k : Nat} {xs : List Nat} (h : xs ++ dg m = dg N) (hN : N < 18446744073709551616) (hk : (vals xs).length = k * 1) : k ≤ 3 := by
  have h1 := congrArg List.length h
  rw [List.length_append] at h1
  have h2 : (dg N).length ≤ 3 := dg_len_le (by omega)
  rw [vals_len] at hk
  omega

theorem u64_div {m N : Nat} (h : m ≤ N) (hN : N < 18446744073709551616) : IntKind.u64.wrap ((m : Int) / 1000000000) = ((m / 1000000000 : Nat) : Int) := by
  rw [IntWalk.u64_in _ ⟨by omega, by omega⟩]; omega
theorem u64_same {m : Nat} (hm : m < 18446744073709551616) : IntKind.u64.wrap (m : Int) = (m : Int) := IntWalk.u64_in _ ⟨by omega, by omega⟩
theorem ret_u64 {a b : Int} (h : a = b) : Value.int .u64 a = .int .u64 b := by rw [h]

end Go.Proofs.YtjkandnbjbfeiaaDoor.Num

/-
  Contracts of layer 1: Small; the document's Make and Trim.
-/
namespace Go.Proofs.YtjkandnbjbfeiaaDoor.Num
open Go.RowKit

/-- The greatest of 64 bits. -/
def top64 : Nat := 18446744073709551615

theorem val_drop_le (a k : Nat) : val ((dg a).drop k) ≤ a := by
  rcases Nat.lt_or_ge (dg a).length k with h | h
  · rw [List.drop_of_length_le (by omega)]; exact Nat.zero_le _
  · have e := val_take_drop (dg a) k h
    rw [val_dg] at e
    have : 1 * val ((dg a).drop k) ≤ 1000000000 ^ k * val ((dg a).drop k) := Nat.mul_le_mul_right _ (Nat.one_le_pow _ _ (by omega))
    omega
theorem small_step {a k : Nat} (ha : a ≤ top64) (hk : 0 < k) : IntKind.u64.wrap (IntKind.u64.wrap (((val ((dg a).drop k) : Nat) : Int) * 1000000000) + ((gd (dg a) (k - 1) : Nat) : Int)) = ((val ((dg a).drop (k - 1)) : Nat) : Int) := by
  have e := val_drop (dg a) (k - 1)
  have hle := val_drop_le a (k - 1)
  rw [show k - 1 + 1 = k by omega] at e
  unfold top64 at ha
  rw [IntWalk.u64_in (((val ((dg a).drop k) : Nat) : Int) * 1000000000) ⟨by omega, by omega⟩, IntWalk.u64_in _ ⟨by omega, by omega⟩]
  omega

theorem ret_small {a b : Int} {t : Bool} (h : a = b) : Ending.returned (.tuple #[.int .u64 a, .bool t]) = .returned (.tuple #[.int .u64 b, .bool t]) := by rw [h]

theorem own_below {w w' : World} {base : Nat} {e : TypeId} {v : Value} {n : Nat} {xs : List Value} (h : w.ownsRow base e 1 v n xs) (hb : Below w.heap.size w w') : w'.ownsRow base e 1 v n xs :=
  h.kept (row := none) ⟨hb.os, hb.tape, hb.output, hb.size, fun k hk _ => hb.block k hk⟩ (by
    cases hv : v.ownBlock with
    | none => exact .inl rfl
    | some g => exact .inr (by simp))

theorem own_block_le {b n c g : Nat} (h : (Value.slice (some ⟨b, 0, none⟩) n c).ownBlock = some g) : b ≤ g := by
  have : b = g := by simpa [Value.ownBlock] using h
  omega

theorem own_one (w : World) (x : Nat) (v : Int) (hv : v = x) (base : Nat) (hbase : base ≤ w.heap.size) : (w.alloc (.cells #[.int .u32 v] 88)).ownsRow base 88 1 (.slice (some ⟨w.heap.size, 0, none⟩) 1 1) 1 (vals [x]) := by
  subst hv
  exact World.ownsRow_lit w #[.int .u32 (x : Int)] 1 hbase (by simp [maxLen]) rfl

theorem dg_len_div {N : Nat} (h : N < 18446744073709551616) : (dg (N / 1000000000)).length ≤ 3 := dg_len_le (by omega)

theorem trim_last {xs : List Nat} {n : Nat} (hl : xs.length = n) (hn : 0 < n) (h : gd xs (n - 1) = 0) : val xs = val (xs.take (n - 1)) := by
  have e := val_take_drop xs (n - 1) (by omega)
  rw [val_drop, h, List.drop_of_length_le (by omega), val] at e
  omega

end Go.Proofs.YtjkandnbjbfeiaaDoor.Num
