/-
  Contracts of layer 10, the first part: rows of lines in memory; end, told, Indent, Count and the document's.
-/
import Derived.Test.YthpoplgejenpgaaDoorScaMath
import Derived.Test.YthpoplgejenpgaaDoorChecked
import Derived.Test.YthpoplgejenpgaaDoorShelf
import Derived.KernelRfl
import Derived.Deep.QuietTactic
import Derived.BigQuiet
import Derived.WalkMore
import Derived.Deep.LoopGhost
import Derived.Deep.RegionWith
import Derived.Deep.RegionHeld3
import Derived.Deep.AppendLies
import Derived.Laws.OwnMore
import Derived.Lib.Hide
import Derived.IntWalk
import Derived.Laws.BytesArg
import Derived.Lib.AppendIntMem
set_option linter.unusedVariables false
set_option linter.unusedSimpArgs false
namespace Go.Proofs.YthpoplgejenpgaaDoor
open Go.RowKit

/-- What a call hands back; nothing that was there has turned. -/
def Ret9 (W : World) (v : Value) (e : Ending) (w' : World) : Prop := e = .returned v ∧ Below W.heap.size W w'
theorem below_drewN (w : World) (n : Nat) : Below w.heap.size w (w.drewN n) := ⟨rfl, rfl, rfl, Nat.le_refl _, fun _ _ => rfl⟩

/-- Lines as cells: numbers and texts. -/
def row10 : Nat → List (List Nat) → List Value
  | _, [] => []
  | k, t :: l => .int .i64 ((k + 1 : Nat) : Int) :: .string (st9 t) :: row10 (k + 1) l
theorem row10_len : ∀ (k : Nat) (l : List (List Nat)), (row10 k l).length = l.length * 2
  | _, [] => rfl
  | k, t :: l => by rw [row10, List.length_cons, List.length_cons, row10_len (k + 1) l, List.length_cons]; omega
theorem row10_push : ∀ (k : Nat) (l : List (List Nat)) (t : List Nat), row10 k (l ++ [t]) = row10 k l ++ [.int .i64 ((k + l.length + 1 : Nat) : Int), .string (st9 t)]
  | _, [], _ => rfl
  | k, u :: l, t => by
    rw [List.cons_append, row10, row10_push (k + 1) l t, row10, List.length_cons, show k + 1 + l.length + 1 = k + (l.length + 1) + 1 by omega]; rfl
theorem row10_flat : ∀ (k : Nat) (l : List (List Nat)), ∀ u ∈ row10 k l, u.oneCell' = true
  | _, [], u, h => absurd h List.not_mem_nil
  | k, t :: l, u, h => by
    rw [row10] at h
    rcases List.mem_cons.1 h with rfl | h
    · rfl
    · rcases List.mem_cons.1 h with rfl | h
      · rfl
      · exact row10_flat _ _ u h
theorem row10_get : ∀ (k : Nat) (l : List (List Nat)) (j : Nat), j < l.length → (row10 k l)[j * 2]? = some (.int .i64 ((k + j + 1 : Nat) : Int)) ∧ (row10 k l)[j * 2 + 1]? = some (.string (st9 (l.getD j [])))
  | _, [], j, h => absurd h (Nat.not_lt_zero _)
  | k, t :: l, 0, _ => ⟨rfl, rfl⟩
  | k, t :: l, j + 1, h => by
    have := row10_get (k + 1) l j (by simpa using h)
    rw [show (j + 1) * 2 = j * 2 + 1 + 1 by omega, row10, List.getElem?_cons_succ, List.getElem?_cons_succ, List.getElem?_cons_succ, List.getElem?_cons_succ, List.getD_cons_succ]
    rw [show k + (j + 1) + 1 = k + 1 + j + 1 by omega]
    exact this
theorem info_line : (Tryd.prog.info? 32).map (fun i => (i.zero, i.size, i.bytes)) = some (some (.agg #[.int .i64 0, .string ⟨#[]⟩]), 2, 24) := by kernel_rfl
theorem info_parts10 {i : Option TypeInfo} {z : Value} {s b : Nat} (h : i.map (fun i => (i.zero, i.size, i.bytes)) = some (some z, s, b)) : ∃ i0, i = some i0 ∧ i0.zero = some z ∧ i0.size = s ∧ i0.bytes = b := by
  cases i with
  | none => cases h
  | some i0 =>
    simp only [Option.map_some, Option.some.injEq, Prod.mk.injEq] at h
    exact ⟨i0, rfl, h.1, h.2.1, h.2.2⟩
theorem zcells2 : (Value.agg #[.int .i64 0, .string ⟨#[]⟩]).cells.size = 2 := by simp [Value.cells]
/-- A row of lines in memory of the call's own. -/
def OwnL (w : World) (base : Nat) (v : Value) (l : List (List Nat)) : Prop := w.ownsRow base 32 2 v l.length (row10 0 l)
section
variable {w w' : World} {base : Nat} {v : Value} {l : List (List Nat)}
theorem grown10 (hb : Below w.heap.size w w') : w.grownBy w' none := ⟨hb.os, hb.tape, hb.output, hb.size, fun k hk _ => hb.block k hk⟩
theorem OwnL.start (w : World) (base : Nat) : OwnL w base (.slice none 0 0) [] := World.ownsRow_nil _ _ _ _
theorem OwnL.on (h : OwnL w base v l) (hb : Below w.heap.size w w') : OwnL w' base v l := World.ownsRow.kept h (grown10 hb) (by cases hv : v.ownBlock <;> simp)
theorem OwnL.mono {base' : Nat} (h : OwnL w base v l) (hB : base' ≤ base) : OwnL w base' v l := by
  rcases h with ⟨h1, h2 | ⟨g, cap, cur, hv, hb, r⟩⟩
  · exact ⟨h1, .inl h2⟩
  · exact ⟨h1, .inr ⟨g, cap, cur, hv, Nat.le_trans hB hb, r⟩⟩
theorem OwnL.slen (h : OwnL w base v l) : ∃ A c, v = .slice A l.length c := by
  rcases h.2 with ⟨rfl, h0⟩ | ⟨g, cap, cur, rfl, _⟩
  · have : l = [] := List.eq_nil_of_length_eq_zero h0
    subst this
    exact ⟨none, 0, rfl⟩
  · exact ⟨_, _, rfl⟩
/-- A row of lines that is read. -/
def RdL (w : World) (A : Option Addr) (c : Nat) (l : List (List Nat)) : Prop := l.length ≤ c ∧ c ≤ maxLen ∧ (l = [] ∨ ∃ b, A = some ⟨b, 0, none⟩ ∧ b < w.heap.size ∧ ∀ j u, (row10 0 l)[j]? = some u → w.cell? ⟨b, j, none⟩ = some u)
theorem RdL.on {A : Option Addr} {c : Nat} (h : RdL w A c l) (hb : Below w.heap.size w w') : RdL w' A c l := by
  obtain ⟨h1, h2, h | ⟨b, h3, h4, h5⟩⟩ := h
  · exact ⟨h1, h2, .inl h⟩
  · exact ⟨h1, h2, .inr ⟨b, h3, Nat.lt_of_lt_of_le h4 hb.size, fun j u hu => (hb.cell (p := ⟨b, j, none⟩) h4).trans (h5 j u hu)⟩⟩
theorem OwnL.rd (h : OwnL w base v l) : ∃ A c, v = .slice A l.length c ∧ RdL w A c l := by
  have hlt := World.ownsRow.lt h
  have hc := fun g e => World.ownsRow.cells h (g := g) e
  rcases h.2 with ⟨rfl, h0⟩ | ⟨g, cap, cur, rfl, hb, hg, h3, h4, _⟩
  · have : l = [] := List.eq_nil_of_length_eq_zero h0
    subst this
    exact ⟨none, 0, rfl, Nat.le_refl _, Nat.zero_le _, .inl rfl⟩
  · refine ⟨_, _, rfl, h3, h4, .inr ⟨g, rfl, (hlt g rfl).2, fun j u hu => ?_⟩⟩
    have := hc g rfl j u hu
    rwa [Addr.add_lit, Nat.zero_add] at this
/-- A line that is read. -/
theorem RdL.at_ {A : Option Addr} {c : Nat} (h : RdL w A c l) {k : Nat} (hk : k < l.length) : ∃ b, A = some ⟨b, 0, none⟩ ∧ l.length ≤ c ∧ c ≤ maxLen ∧ b < w.heap.size ∧
    w.cell? ⟨b, k * 2, none⟩ = some (.int .i64 ((k + 1 : Nat) : Int)) ∧ w.cell? ⟨b, k * 2 + 1, none⟩ = some (.string (st9 (l.getD k []))) := by
  obtain ⟨h1, h2, h | ⟨b, h3, h4, h5⟩⟩ := h
  · subst h; exact absurd hk (Nat.not_lt_zero _)
  · have := row10_get 0 l k hk
    rw [Nat.zero_add] at this
    exact ⟨b, h3, h1, h2, h4, h5 _ _ this.1, h5 _ _ this.2⟩
theorem line_new (n : Nat) (t : List Nat) (ty : TypeId) : ∀ j u, ([.int .i64 ((n + 1 : Nat) : Int), .string (st9 t)] : List Value)[j]? = some u → (w.alloc (.cells #[.int .i64 ((n + 1 : Nat) : Int), .string (st9 t)] ty)).cell? ((⟨w.heap.size, 0, none⟩ : Addr).add j) = some u := by
  intro j u hu
  rw [Addr.add_lit, cell_of_row _ w.heap.size _ _ ty (0, 0) (heap_alloc_new w _), Nat.zero_add, ← Array.getElem?_toList]
  simpa using hu
end
/-- What Lines hands back. -/
def RetL (W : World) (l : List (List Nat)) (e : Ending) (w' : World) : Prop := ∃ v, e = .returned v ∧ OwnL w' W.heap.size v l ∧ Below W.heap.size W w'

theorem sl_from {s X : ByteArray} {i : Nat} (h : i ≤ s.size) (hX : s.extract i s.size = X) (w' : World) : (Instr.slice 9 (.string s) (some (.int .i64 (i : Int))) none none).run Tryd.prog w' = .ok (.string X) w' := by
  rw [run_slice_string_l w' _ s Tryd.underlying9 _ _ (by omega) (by omega), Int.toNat_natCast, hX]
theorem sl_to {s X : ByteArray} {i : Nat} (h : i ≤ s.size) (hX : s.extract 0 i = X) (w' : World) : (Instr.slice 9 (.string s) none (some (.int .i64 (i : Int))) none).run Tryd.prog w' = .ok (.string X) w' := by
  rw [run_slice_string_h w' _ s Tryd.underlying9 _ _ (by omega) (by omega), Int.toNat_natCast, hX]
theorem sl_both {s X : ByteArray} {i j : Nat} (h : i ≤ j) (h2 : j ≤ s.size) (hX : s.extract i j = X) (w' : World) : (Instr.slice 9 (.string s) (some (.int .i64 (i : Int))) (some (.int .i64 (j : Int))) none).run Tryd.prog w' = .ok (.string X) w' := by
  rw [run_slice_string w' _ s _ _ _ _ Tryd.underlying9 (by omega) (by omega) (by omega), Int.toNat_natCast, Int.toNat_natCast, hX]
theorem add9 {x y z : ByteArray} (h : bs9 x ++ bs9 y = bs9 z) (hl : x.size + y.size ≤ 9223372036854775807) (w : World) : (Op.stringOp .add x y).run Tryd.prog w = .ok (.string z) w := by
  have e : x ++ y = z := bs9_inj (by rw [bs9_append, h])
  rw [run_string_add_sum w _ _ hl, e]
theorem bs9_at (s : ByteArray) (i : Nat) (h : i < s.size) : (bs9 s)[i]? = some (s[i]'h).toNat := by
  have e := congrArg List.head? (bs9_get s i h)
  rw [List.head?_drop] at e
  exact e

set_option maxHeartbeats 4000000 in
set_option maxRecDepth 100000 in
theorem end_any (s : ByteArray) (i : Nat) (w : World) (hi : i ≤ s.size) (hs : s.size ≤ 1000000) : Calls Tryd.prog 18 #[.string s, .int .i64 (i : Int)] w (Ret9 w (.int .i64 ((i + (hdl ((bs9 s).drop i)).length : Nat) : Int))) := by
  obtain ⟨z, hz⟩ : ∃ z, (hdl ((bs9 s).drop i)).length = z := ⟨_, rfl⟩
  rw [hz]
  have hzl : z ≤ s.size - i := by have := hdl_le ((bs9 s).drop i); rw [List.length_drop, bs9_len] at this; omega
  have HS : Hid (∀ n x, n ≤ z → (bs9 s)[i + n]? = some x → (x = 10 → z = n) ∧ (x ≠ 10 → n + 1 ≤ z)) := fun n x hn hx => by
    have := hdl_ten (l := (bs9 s).drop i) (n := n) (x := x) (by omega) (by rw [List.getElem?_drop]; exact hx)
    rw [hz] at this; exact this
  clear hz
  have em : (s.size : Int) - (i : Int) = ((s.size - i : Nat) : Int) := by omega
  obtain ⟨m, hm⟩ : ∃ m, s.size - i = m := ⟨_, rfl⟩
  rw [hm] at em hzl
  go_enter Tryd.func18, Tryd.ntmps18
  go_wp2_with fail
  go_loopw [10] (fun nv wr => ∃ n : Nat, nv = .int .i64 n ∧ n ≤ z ∧ Below w.heap.size w wr) (fun nv _ => m - (intOf nv).toNat)
  case atStart => exact ⟨0, rfl, Nat.zero_le _, Below.refl _ _⟩
  case round =>
    obtain ⟨n, rfl, hn, hb⟩ := hrel
    have HB := Lib.hid hb
    clear hb
    rcases Nat.lt_or_ge n m with hlt | hge
    · have hin : i + n < s.size := by omega
      obtain ⟨j, hj⟩ : ∃ j, i + n = j := ⟨_, rfl⟩
      have hji : (i : Int) + (n : Int) = (j : Int) := by omega
      have hjs : j < s.size := by omega
      obtain ⟨x, hx⟩ : ∃ x, x = (s[j]'hjs).toNat := ⟨_, rfl⟩
      have ex : ((s[j]'hjs).toNat : Int) = (x : Int) := by rw [hx]
      have h2 := HS.out n x hn (by rw [hj, bs9_at s j hjs, hx])
      clear hx hj
      by_cases h10 : x = 10
      · have d : ((x : Int) == 10) = true := by rw [h10]; rfl
        have E : Hid (z = n) := h2.1 h10
        clear h2 h10
        go_wp2_with fail
        go_ret
        exact ⟨by rw [E.out]; exact congrArg (fun q => Ending.returned (.int .i64 q)) (by omega), HB.out⟩
      · have d : ((x : Int) == 10) = false := by rw [beq_eq_false_iff_ne]; omega
        have E : Hid (n + 1 ≤ z) := h2.2 h10
        clear h2 h10
        go_wp2_with fail
        go_roundw
        case rel => exact ⟨n + 1, by go_num, E.out, HB.out⟩
        case measure => simp [intOf]; omega
    · have E : Hid (i + z = s.size) := by show _ = _; omega
      go_wp2_with fail
      go_ret
      exact ⟨by rw [E.out]; rfl, HB.out⟩

theorem trim_is {X Y : ByteArray} {w : World} (h : strl (bs9 X) = bs9 Y) (hs : X.size ≤ 1000000) : Calls Tryd.prog 26 #[.string X, .string ⟨#[13]⟩] w (fun e w' => e = .returned (.string Y) ∧ w' = w) := by
  refine (Tryd.strings_TrimSuffix X ⟨#[13]⟩ w (by omega)).mono fun e w' ⟨h1, h2⟩ => ⟨?_, h2⟩
  rw [h1]
  have : (⟨(Lib.trimSuffix X.data.toList [13]).toArray⟩ : ByteArray) = Y := bs9_inj (by
    rw [← h]
    unfold Lib.trimSuffix Lib.hasSuffix bs9 strl
    simp only [List.toList_toArray]
    cases hx : X.data.toList.getLast? with
    | none =>
      rw [List.getLast?_eq_none_iff] at hx
      rw [hx]; rfl
    | some c =>
      obtain ⟨l, hl⟩ := List.getLast?_eq_some_iff.1 hx
      rw [hl, List.map_append, List.map_singleton, List.getLast?_concat, List.dropLast_concat]
      by_cases h13 : c = 13
      · subst h13
        rw [if_pos (by rw [List.isSuffixOf_iff_suffix]; exact List.suffix_append _ _), if_pos (show some (UInt8.toNat 13) = some 13 from rfl)]
        simp
      · rw [if_neg, if_neg]
        · rw [List.map_append, List.map_singleton]
        · intro e; exact h13 (UInt8.toNat_inj.1 (Option.some.inj e))
        · rw [List.isSuffixOf_iff_suffix]
          rintro ⟨t, ht⟩
          have := congrArg List.getLast? ht
          rw [List.getLast?_concat, List.getLast?_concat] at this
          exact h13 (Option.some.inj this).symm)
  rw [← this]

set_option maxHeartbeats 4000000 in
set_option maxRecDepth 100000 in
theorem told_is {s Y : ByteArray} {i j : Nat} {w : World} (hij : i ≤ j) (hj : j ≤ s.size) (h : strl (((bs9 s).drop i).take (j - i)) = bs9 Y) (hs : s.size ≤ 1000000) : Calls Tryd.prog 17 #[.string s, .int .i64 (i : Int), .int .i64 (j : Int)] w (Ret9 w (.string Y)) := by
  obtain ⟨X, hX⟩ : ∃ X, s.extract i j = X := ⟨_, rfl⟩
  have hXs : X.size ≤ 1000000 := by rw [← hX]; simp only [ByteArray.size_extract]; omega
  have HT : Hid (strl (bs9 X) = bs9 Y) := by show _ = _; rw [← hX, bs9_extract]; exact h
  have hsl : ∀ w', (Instr.slice 9 (.string s) (some (.int .i64 (i : Int))) (some (.int .i64 (j : Int))) none).run Tryd.prog w' = .ok (.string X) w' := sl_both hij hj hX
  clear h hX
  go_enter Tryd.func17, Tryd.ntmps17
  go_wp2_with fail
  refine (trim_is HT.out hXs).mono ?_; rintro e w1 ⟨rfl, rfl⟩
  go_wp2_with fail
  go_ret
  exact ⟨rfl, Below.refl _ _⟩

end Go.Proofs.YthpoplgejenpgaaDoor
