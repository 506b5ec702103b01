/- What the proofs of this layer need of the layer Sca, in one text. -/
import Derived.Test.YtjkandnbjbfeiaaDoorAllScaA
import Derived.Test.YtjkandnbjbfeiaaDoorChecked
import Derived.Test.YtjkandnbjbfeiaaDoorShelf
import Derived.KernelRfl
import Derived.Deep.QuietTactic
import Derived.BigQuiet
import Derived.WalkMore
import Derived.Deep.LoopGhost
import Derived.Deep.RegionWith
import Derived.Deep.RegionHeld3
import Derived.Deep.AppendLies
import Derived.Laws.OwnMore
import Derived.Lib.Hide
import Derived.IntWalk
import Derived.Laws.BytesArg
import Derived.Lib.AppendIntMem
set_option linter.unusedVariables false
set_option linter.unusedSimpArgs false

/-
  Contracts of layer 10, the first part: rows of lines in memory; end, told, Indent, Count and the document's.
-/
namespace Go.Proofs.YtjkandnbjbfeiaaDoor
open Go.RowKit

/-- What a call hands back; nothing that was there has turned. -/
def Ret9 (W : World) (v : Value) (e : Ending) (w' : World) : Prop := e = .returned v ∧ Below W.heap.size W w'
theorem below_drewN (w : World) (n : Nat) : Below w.heap.size w (w.drewN n) := ⟨rfl, rfl, rfl, Nat.le_refl _, fun _ _ => rfl⟩

/-- Lines as cells: numbers and texts. -/
def row10 : Nat → List (List Nat) → List Value
  | _, [] => []
  | k, t :: l => .int .i64 ((k + 1 : Nat) : Int) :: .string (st9 t) :: row10 (k + 1) l
theorem row10_len : ∀ (k : Nat) (l : List (List Nat)), (row10 k l).length = l.length * 2
  | _, [] => rfl
  | k, t :: l => by rw [row10, List.length_cons, List.length_cons, row10_len (k + 1) l, List.length_cons]; omega
theorem row10_push : ∀ (k : Nat) (l : List (List Nat)) (t : List Nat), row10 k (l ++ [t]) = row10 k l ++ [.int .i64 ((k + l.length + 1 : Nat) : Int), .string (st9 t)]
  | _, [], _ => rfl
  | k, u :: l, t => by
    rw [List.cons_append, row10, row10_push (k + 1) l t, row10, List.length_cons, show k + 1 + l.length + 1 = k + (l.length + 1) + 1 by omega]; rfl
theorem row10_flat : ∀ (k : Nat) (l : List (List Nat)), ∀ u ∈ row10 k l, u.oneCell' = true
  | _, [], u, h => absurd h List.not_mem_nil
  | k, t :: l, u, h => by
    rw [row10] at h
    rcases List.mem_cons.1 h with rfl | h
    · rfl
    · rcases List.mem_cons.1 h with rfl | h
      · rfl
      · exact row10_flat _ _ u h
theorem row10_get : ∀ (k : Nat) (l : List (List Nat)) (j : Nat), j < l.length → (row10 k l)[j * 2]? = some (.int .i64 ((k + j + 1 : Nat) : Int)) ∧ (row10 k l)[j * 2 + 1]? = some (.string (st9 (l.getD j [])))
  | _, [], j, h => absurd h (Nat.not_lt_zero _)
  | k, t :: l, 0, _ => ⟨rfl, rfl⟩
  | k, t :: l, j + 1, h => by
    have := row10_get (k + 1) l j (by simpa using h)
    rw [show (j + 1) * 2 = j * 2 + 1 + 1 by omega, row10, List.getElem?_cons_succ, List.getElem?_cons_succ, List.getElem?_cons_succ, List.getElem?_cons_succ, List.getD_cons_succ]
    rw [show k + (j + 1) + 1 = k + 1 + j + 1 by omega]
    exact this
theorem info_line : (Tryd.prog.info? 23).map (fun i => (i.zero, i.size, i.bytes)) = some (some (.agg #[.int .i64 0, .string ⟨#[]⟩]), 2, 24) := by kernel_rfl
theorem info_parts10 {i : Option TypeInfo} {z : Value} {s b : Nat} (h : i.map (fun i => (i.zero, i.size, i.bytes)) = some (some z, s, b)) : ∃ i0, i = some i0 ∧ i0.zero = some z ∧ i0.size = s ∧ i0.bytes = b := by
  cases i with
  | none => cases h
  | some i0 =>
    simp only [Option.map_some, Option.some.injEq, Prod.mk.injEq] at h
    exact ⟨i0, rfl, h.1, h.2.1, h.2.2⟩
theorem zcells2 : (Value.agg #[.int .i64 0, .string ⟨#[]⟩]).cells.size = 2 := by simp [Value.cells]
/-- A row of lines in memory of the call's own. -/
def OwnL (w : World) (base : Nat) (v : Value) (l : List (List Nat)) : Prop := w.ownsRow base 23 2 v l.length (row10 0 l)
section
variable {w w' : World} {base : Nat} {v : Value} {l : List (List Nat)}
theorem grown10 (hb : Below w.heap.size w w') : w.grownBy w' none := ⟨hb.os, hb.tape, hb.output, hb.size, fun k hk _ => hb.block k hk⟩
theorem OwnL.start (w : World) (base : Nat) : OwnL w base (.slice none 0 0) [] := World.ownsRow_nil _ _ _ _
theorem OwnL.on (h : OwnL w base v l) (hb : Below w.heap.size w w') : OwnL w' base v l := World.ownsRow.kept h (grown10 hb) (by cases hv : v.ownBlock <;> simp)
theorem OwnL.mono {base' : Nat} (h : OwnL w base v l) (hB : base' ≤ base) : OwnL w base' v l := by
  rcases h with ⟨h1, h2 | ⟨g, cap, cur, hv, hb, r⟩⟩
  · exact ⟨h1, .inl h2⟩
  · exact ⟨h1, .inr ⟨g, cap, cur, hv, Nat.le_trans hB hb, r⟩⟩
theorem OwnL.slen (h : OwnL w base v l) : ∃ A c, v = .slice A l.length c := by
  rcases h.2 with ⟨rfl, h0⟩ | ⟨g, cap, cur, rfl, _⟩
  · have : l = [] := List.eq_nil_of_length_eq_zero h0
    subst this
    exact ⟨none, 0, rfl⟩
  · exact ⟨_, _, rfl⟩
/-- A row of lines that is read. -/
def RdL (w : World) (A : Option Addr) (c : Nat) (l : List (List Nat)) : Prop := l.length ≤ c ∧ c ≤ maxLen ∧ (l = [] ∨ ∃ b, A = some ⟨b, 0, none⟩ ∧ b < w.heap.size ∧ ∀ j u, (row10 0 l)[j]? = some u → w.cell? ⟨b, j, none⟩ = some u)
theorem RdL.on {A : Option Addr} {c : Nat} (h : RdL w A c l) (hb : Below w.heap.size w w') : RdL w' A c l := by
  obtain ⟨h1, h2, h | ⟨b, h3, h4, h5⟩⟩ := h
  · exact ⟨h1, h2, .inl h⟩
  · exact ⟨h1, h2, .inr ⟨b, h3, Nat.lt_of_lt_of_le h4 hb.size, fun j u hu => (hb.cell (p := ⟨b, j, none⟩) h4).trans (h5 j u hu)⟩⟩
theorem OwnL.rd (h : OwnL w base v l) : ∃ A c, v = .slice A l.length c ∧ RdL w A c l := by
  have hlt := World.ownsRow.lt h
  have hc := fun g e => World.ownsRow.cells h (g := g) e
  rcases h.2 with ⟨rfl, h0⟩ | ⟨g, cap, cur, rfl, hb, hg, h3, h4, _⟩
  · have : l = [] := List.eq_nil_of_length_eq_zero h0
    subst this
    exact ⟨none, 0, rfl, Nat.le_refl _, Nat.zero_le _, .inl rfl⟩
  · refine ⟨_, _, rfl, h3, h4, .inr ⟨g, rfl, (hlt g rfl).2, fun j u hu => ?_⟩⟩
    have := hc g rfl j u hu
    rwa [Addr.add_lit, Nat.zero_add] at this
/-- A line that is read. -/
theorem RdL.at_ {A : Option Addr} {c : Nat} (h : RdL w A c l) {k : Nat} (hk : k < l.length) : ∃ b, A = some ⟨b, 0, none⟩ ∧ l.length ≤ c ∧ c ≤ maxLen ∧ b < w.heap.size ∧
    w.cell? ⟨b, k * 2, none⟩ = some (.int .i64 ((k + 1 : Nat) : Int)) ∧ w.cell? ⟨b, k * 2 + 1, none⟩ = some (.string (st9 (l.getD k []))) := by
  obtain ⟨h1, h2, h | ⟨b, h3, h4, h5⟩⟩ := h
  · subst h; exact absurd hk (Nat.not_lt_zero _)
  · have := row10_get 0 l k hk
    rw [Nat.zero_add] at this
    exact ⟨b, h3, h1, h2, h4, h5 _ _ this.1, h5 _ _ this.2⟩
theorem line_new (n : Nat) (t : List Nat) (ty : TypeId) : ∀ j u, ([.int .i64 ((n + 1 : Nat) : Int), .string (st9 t)] : List Value)[j]? = some u → (w.alloc (.cells #[.int .i64 ((n + 1 : Nat) : Int), .string (st9 t)] ty)).cell? ((⟨w.heap.size, 0, none⟩ : Addr).add j) = some u := by
  intro j u hu
  rw [Addr.add_lit, cell_of_row _ w.heap.size _ _ ty (0, 0) (heap_alloc_new w _), Nat.zero_add, ← Array.getElem?_toList]
  simpa using hu
end
/-- What Lines hands back. -/
def RetL (W : World) (l : List (List Nat)) (e : Ending) (w' : World) : Prop := ∃ v, e = .returned v ∧ OwnL w' W.heap.size v l ∧ Below W.heap.size W w'

theorem sl_from {s X : ByteArray} {i : Nat} (h : i ≤ s.size) (hX : s.extract i s.size = X) (w' : World) : (Instr.slice 9 (.string s) (some (.int .i64 (i : Int))) none none).run Tryd.prog w' = .ok (.string X) w' := by
  rw [run_slice_string_l w' _ s Tryd.underlying9 _ _ (by omega) (by omega), Int.toNat_natCast, hX]
theorem sl_to {s X : ByteArray} {i : Nat} (h : i ≤ s.size) (hX : s.extract 0 i = X) (w' : World) : (Instr.slice 9 (.string s) none (some (.int .i64 (i : Int))) none).run Tryd.prog w' = .ok (.string X) w' := by
  rw [run_slice_string_h w' _ s Tryd.underlying9 _ _ (by omega) (by omega), Int.toNat_natCast, hX]
theorem sl_both {s X : ByteArray} {i j : Nat} (h : i ≤ j) (h2 : j ≤ s.size) (hX : s.extract i j = X) (w' : World) : (Instr.slice 9 (.string s) (some (.int .i64 (i : Int))) (some (.int .i64 (j : Int))) none).run Tryd.prog w' = .ok (.string X) w' := by
  rw [run_slice_string w' _ s _ _ _ _ Tryd.underlying9 (by omega) (by omega) (by omega), Int.toNat_natCast, Int.toNat_natCast, hX]
theorem add9 {x y z : ByteArray} (h : bs9 x ++ bs9 y = bs9 z) (hl : x.size + y.size ≤ 9223372036854775807) (w : World) : (Op.stringOp .add x y).run Tryd.prog w = .ok (.string z) w := by
  have e : x ++ y = z := bs9_inj (by rw [bs9_append, h])
  rw [run_string_add_sum w _ _ hl, e]
theorem bs9_at (s : ByteArray) (i : Nat) (h : i < s.size) : (bs9 s)[i]? = some (s[i]'h).toNat := by
  have e := congrArg List.head? (bs9_get s i h)
  rw [List.head?_drop] at e
  exact e

end Go.Proofs.YtjkandnbjbfeiaaDoor

/-
  Contracts of layer 10, the second part: Count, Indent, Blank and the document's.
-/
namespace Go.Proofs.YtjkandnbjbfeiaaDoor
open Go.RowKit

theorem lin_end {s : ByteArray} {i : Nat} (h : s.size ≤ i) : linl ((bs9 s).drop i) = [] := by
  rw [List.drop_of_length_le (by rw [bs9_len]; exact h), linl_nil]
theorem lin_step {s : ByteArray} {i : Nat} (h : i < s.size) : linl ((bs9 s).drop i) = strl (hdl ((bs9 s).drop i)) :: linl ((bs9 s).drop (i + (hdl ((bs9 s).drop i)).length + 1)) := linl_at (by rw [bs9_len]; exact h)
theorem hd_le {s : ByteArray} {i : Nat} (h : i ≤ s.size) : i + (hdl ((bs9 s).drop i)).length ≤ s.size := by
  have := hdl_le ((bs9 s).drop i)
  rw [List.length_drop, bs9_len] at this; omega

theorem str_nil {s : ByteArray} (h : s.size = 0) : s = ⟨#[]⟩ := bs9_inj (by rw [List.eq_nil_of_length_eq_zero ((bs9_len s).trans h)]; rfl)
theorem str_ne {s : ByteArray} (h : 0 < s.size) : (s.toList == []) = false := by
  rw [beq_eq_false_iff_ne]
  intro e
  have e2 : bs9 s = [] := by unfold bs9; rw [← ByteArray.toList_eq, e]; rfl
  have := bs9_len s
  rw [e2] at this
  simp at this; omega

set_option maxHeartbeats 4000000 in
set_option maxRecDepth 100000 in
theorem indent_any (s : ByteArray) (w : World) (hs : s.size ≤ 1000000) : Calls Tryd.prog 20 #[.string s] w (Ret9 w (.int .i64 (indl (bs9 s) : Nat))) := by
  obtain ⟨z, hz⟩ : ∃ z, indl (bs9 s) = z := ⟨_, rfl⟩
  have hzl := indl_le (bs9 s)
  rw [hz, bs9_len] at hzl
  rw [hz]
  have HS : Hid (∀ n x, n ≤ z → (bs9 s)[n]? = some x → ((x = 32 ∨ x = 9) → n + 1 ≤ z) ∧ (¬ (x = 32 ∨ x = 9) → z = n)) := fun n x hn hx => by
    have := indl_at (l := bs9 s) (n := n) (x := x) (by omega) hx
    rw [hz] at this; exact this
  clear hz
  go_enter Tryd.func20, Tryd.ntmps20
  go_wp2_with fail
  go_loopw [6] (fun nv wr => ∃ n : Nat, nv = .int .i64 n ∧ n ≤ z ∧ Below w.heap.size w wr) (fun nv _ => s.size - (intOf nv).toNat)
  case atStart => exact ⟨0, rfl, Nat.zero_le _, Below.refl _ _⟩
  case round =>
    obtain ⟨n, rfl, hn, hb⟩ := hrel
    have HB := Lib.hid hb
    clear hb
    rcases Nat.lt_or_ge n s.size with hlt | hge
    · obtain ⟨x, hx⟩ : ∃ x, x = (s[n]'hlt).toNat := ⟨_, rfl⟩
      have ex : ((s[n]'hlt).toNat : Int) = (x : Int) := by rw [hx]
      have h2 := HS.out n x hn (by rw [bs9_at s n hlt, hx])
      clear hx
      by_cases h32 : x = 32
      · have d : ((x : Int) != 32) = false := by rw [h32]; rfl
        have E : Hid (n + 1 ≤ z) := h2.1 (.inl h32)
        clear h2 h32
        go_wp2_with fail
        go_roundw
        case rel => exact ⟨n + 1, by go_num, E.out, HB.out⟩
        case measure => simp [intOf]; omega
      · have d : ((x : Int) != 32) = true := by rw [bne_iff_ne]; omega
        by_cases h9 : x = 9
        · have d2 : ((x : Int) != 9) = false := by rw [h9]; rfl
          have E : Hid (n + 1 ≤ z) := h2.1 (.inr h9)
          clear h2 h32 h9
          go_wp2_with fail
          go_roundw
          case rel => exact ⟨n + 1, by go_num, E.out, HB.out⟩
          case measure => simp [intOf]; omega
        · have d2 : ((x : Int) != 9) = true := by rw [bne_iff_ne]; omega
          have E : Hid (z = n) := h2.2 (by omega)
          clear h2 h32 h9
          go_wp2_with fail
          go_ret
          exact ⟨by rw [E.out]; rfl, HB.out⟩
    · have E : Hid (z = s.size) := by show _ = _; omega
      go_wp2_with fail
      go_ret
      exact ⟨by rw [E.out]; rfl, HB.out⟩

theorem rb9 {a b : Bool} (h : a = b) : Ending.returned (.bool a) = .returned (.bool b) := by rw [h]
end Go.Proofs.YtjkandnbjbfeiaaDoor

/-
  Contracts of layer 10, the third part: Where and the document's.
-/
namespace Go.Proofs.YtjkandnbjbfeiaaDoor
open Go.RowKit

/-- A block of two cells, none of them frozen. -/
structure Bx2 (v : World) (g : Nat) (x0 x1 : Value) : Prop where
  c0 : v.cell? ⟨g, 0, none⟩ = some x0
  c1 : v.cell? ⟨g, 1, none⟩ = some x1
  f0 : v.frozen? ⟨g, 0, none⟩ = false
  f1 : v.frozen? ⟨g, 1, none⟩ = false
  lt : g < v.heap.size
section
variable {v v' : World} {g : Nat} {x0 x1 : Value}
theorem Bx2.newAt (v : World) (x0 x1 : Value) (t : TypeId) (h : g = v.heap.size) : Bx2 (v.alloc (.cells #[x0, x1] t)) g x0 x1 := by
  subst h; exact ⟨by simp, by simp, by simp, by simp, by simp⟩
theorem Bx2.below {B : Nat} (h : Bx2 v g x0 x1) (hb : Below B v v') (hg : g < B) : Bx2 v' g x0 x1 :=
  ⟨(hb.cell (p := ⟨g, 0, none⟩) hg).trans h.c0, (hb.cell (p := ⟨g, 1, none⟩) hg).trans h.c1, (hb.frozen (p := ⟨g, 0, none⟩) hg).trans h.f0, (hb.frozen (p := ⟨g, 1, none⟩) hg).trans h.f1, Nat.lt_of_lt_of_le h.lt hb.size⟩
theorem Bx2.on (h : Bx2 v g x0 x1) (hb : Below v.heap.size v v') : Bx2 v' g x0 x1 := h.below hb h.lt
theorem Bx2.far (h : Bx2 v g x0 x1) (p : Addr) (u : Value) (hp : p.block ≠ g) : Bx2 (v.setCell p u) g x0 x1 :=
  ⟨(World.cell?_setCell_far v p ⟨g, 0, none⟩ u hp).trans h.c0, (World.cell?_setCell_far v p ⟨g, 1, none⟩ u hp).trans h.c1, by rw [World.frozen?_setCell]; exact h.f0, by rw [World.frozen?_setCell]; exact h.f1, by have := h.lt; simpa using this⟩
theorem Bx2.set0 (h : Bx2 v g x0 x1) (y : Value) : Bx2 (v.setCell ⟨g, 0, none⟩ y) g y x1 := by
  have n01 : (⟨g, 0, none⟩ : Addr) ≠ ⟨g, 1, none⟩ := by simp
  exact ⟨World.cell?_setCell_same _ _ _ h.c0, (World.cell?_setCell_other _ _ _ _ n01).trans h.c1, by rw [World.frozen?_setCell]; exact h.f0, by rw [World.frozen?_setCell]; exact h.f1, by have := h.lt; simpa using this⟩
theorem Bx2.set1 (h : Bx2 v g x0 x1) (y : Value) : Bx2 (v.setCell ⟨g, 1, none⟩ y) g x0 y := by
  have n10 : (⟨g, 1, none⟩ : Addr) ≠ ⟨g, 0, none⟩ := by simp
  exact ⟨(World.cell?_setCell_other _ _ _ _ n10).trans h.c0, World.cell?_setCell_same _ _ _ h.c1, by rw [World.frozen?_setCell]; exact h.f0, by rw [World.frozen?_setCell]; exact h.f1, by have := h.lt; simpa using this⟩
end

theorem maxz9' {P : Program} {n : Int} (ts : Array TypeId) (ty : TypeId) (W : World) : (Builtin.max_ ts ty #[.int .i64 n, .int .i64 0]).run P W = .ok (.int .i64 ((n.toNat : Nat) : Int)) W := by
  rw [run_max_int2]
  have e : (if (0 : Int) > n then (0 : Int) else n) = ((n.toNat : Nat) : Int) := by split <;> omega
  rw [e]
theorem minz9 {P : Program} {a b k : Nat} (h : min a b = k) (ts : Array TypeId) (ty : TypeId) (W : World) : (Builtin.min_ ts ty #[.int .i64 (a : Int), .int .i64 (b : Int)]).run P W = .ok (.int .i64 (k : Int)) W := by
  rw [run_min_int2]
  have e : (if (b : Int) < (a : Int) then (b : Int) else (a : Int)) = (k : Int) := by split <;> omega
  rw [e]
/-- The place of a byte. -/
def whr (s : ByteArray) (at_ : Int) : Nat × Nat := posl ((bs9 s).take (min at_.toNat s.size))
def pv10 (p : Nat × Nat) : Value := .agg #[.int .i64 (p.1 : Int), .int .i64 (p.2 : Int)]

end Go.Proofs.YtjkandnbjbfeiaaDoor
