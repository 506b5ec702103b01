/- What the proofs of this layer need of the layer Dec, in one text. -/
import Derived.Test.YthlhpgphmfnlgaaGreatAllDecF
import Derived.Test.YthlhpgphmfnlgaaGreatAllDecE
import Derived.Deep.Strs
set_option maxRecDepth 100000
set_option maxHeartbeats 32000000
set_option linter.unusedVariables false
set_option linter.unusedSimpArgs false
/-
 Rows of raw decimals: as they come in; what none is too long of is a row of decimals.
-/
namespace Go.Proofs.YthlhpgphmfnlgaaGreat
open Go.ChangeShapes Go.WideShapes Go.ChangeAt Go.RowKit Go.Joins Go.Deep
structure Rw where
 b : Bool
 A : Option Addr
 n : Nat
 c : Nat
 xs : List Nat
 k : Int
structure Raws (w : World) (B : Nat) (A : Option Addr) (n c : Nat) (r : Nat → Rw) : Prop where
 cap : n ≤ c
 room : c ≤ maxLen
 row : n = 0 ∨ ∃ b o, A = some ⟨b, o, none⟩ ∧ b < B ∧ ∀ j, j < n → w.cell? ⟨b, o + j * 3, none⟩ = some (.bool (r j).b) ∧ w.cell? ⟨b, o + j * 3 + 1, none⟩ = some (.slice (r j).A (r j).n (r j).c) ∧ w.cell? ⟨b, o + j * 3 + 2, none⟩ = some (.int .i64 (r j).k)
 lim : ∀ j, j < n → Lim w B (r j).A (r j).n (r j).c (r j).xs
 addr : A = none → c = 0
theorem Raws.below {w w' : World} {B n c : Nat} {A : Option Addr} {r : Nat → Rw} (h : Raws w B A n c r) (hb : Below B w w') : Raws w' B A n c r := by
 refine ⟨h.cap, h.room, ?_, fun j hj => (h.lim j hj).below hb, h.addr⟩
 rcases h.row with h0 | ⟨b, o, rfl, hB, hc⟩
 · exact .inl h0
 · exact .inr ⟨b, o, rfl, hB, fun j hj => ⟨(hb.cell (p := ⟨b, o + j * 3, none⟩) hB).trans (hc j hj).1, (hb.cell (p := ⟨b, o + j * 3 + 1, none⟩) hB).trans (hc j hj).2.1, (hb.cell (p := ⟨b, o + j * 3 + 2, none⟩) hB).trans (hc j hj).2.2⟩⟩
theorem Raws.on {w w' : World} {n c : Nat} {A : Option Addr} {r : Nat → Rw} (h : Raws w w.heap.size A n c r) (hb : Below w.heap.size w w') : Raws w' w'.heap.size A n c r := by
 have h2 := h.below hb
 refine ⟨h2.cap, h2.room, ?_, fun j hj => (h2.lim j hj).more hb.size, h2.addr⟩
 rcases h2.row with h0 | ⟨b, o, hA, hB, hc⟩
 · exact .inl h0
 · exact .inr ⟨b, o, hA, Nat.lt_of_lt_of_le hB hb.size, hc⟩
theorem Raws.at_ {w : World} {B n c j : Nat} {A : Option Addr} {r : Nat → Rw} (h : Raws w B A n c r) (hj : j < n) :
   ∃ b o, A = some ⟨b, o, none⟩ ∧ b < B ∧ w.cell? ⟨b, o + j * 3, none⟩ = some (.bool (r j).b) ∧ w.cell? ⟨b, o + j * 3 + 1, none⟩ = some (.slice (r j).A (r j).n (r j).c) ∧ w.cell? ⟨b, o + j * 3 + 2, none⟩ = some (.int .i64 (r j).k) := by
 rcases h.row with h0 | ⟨b, o, rfl, hB, hc⟩
 · omega
 · exact ⟨b, o, rfl, hB, (hc j hj).1, (hc j hj).2.1, (hc j hj).2.2⟩
def longR (r : Nat → Rw) (j : Nat) : Bool := longB (r j).b (r j).n (r j).xs (r j).k
theorem Raws.decs {w : World} {B n c : Nat} {A : Option Addr} {r : Nat → Rw} (h : Raws w B A n c r) (hl : ∀ j, j < n → longR r j = false) : ∃ d, Decs w B A n c d (fun j => ((r j).A, (r j).n, (r j).c)) ∧ ∀ j, j < n → (r j).b = ngB (d j).1 ∧ (r j).xs = dg (d j).1.natAbs ∧ (r j).k = ((d j).2 : Int) ∧ (r j).n ≤ 12 ∧ (d j).2 ≤ 60 := by
 have each : ∀ j, ∃ q : Int × Nat, j < n → (r j).b = ngB q.1 ∧ (r j).xs = dg q.1.natAbs ∧ (r j).k = (q.2 : Int) ∧ (r j).n ≤ 12 ∧ q.2 ≤ 60 := by
   intro j
   by_cases hj : j < n
   · obtain ⟨i, s, e⟩ := of_long (hl j hj) (h.lim j hj)
     exact ⟨(i, s), fun _ => e⟩
   · exact ⟨(0, 0), fun h => absurd h hj⟩
 obtain ⟨d, hd⟩ := Classical.axiomOfChoice each
 have hnum : ∀ j, j < n → Num w B (r j).A (r j).n (r j).c (d j).1.natAbs := fun j hj => by
   have := h.lim j hj
   rw [(hd j hj).2.1] at this
   exact this
 refine ⟨d, ⟨h.cap, h.room, ?_, hnum, fun j hj => ⟨by have := (hnum j hj).len; have := (hd j hj).2.2.2.1; omega, (hd j hj).2.2.2.2⟩, h.addr⟩, hd⟩
 rcases h.row with h0 | ⟨b, o, rfl, hB, hc⟩
 · exact .inl h0
 · refine .inr ⟨b, o, rfl, hB, fun j hj => ?_⟩
   have hc := hc j hj
   rw [(hd j hj).1, (hd j hj).2.2.1] at hc
   exact hc
theorem add_twice (a : Addr) (i j : Nat) : (a.add i).add j = a.add (i + j) := by
 unfold Addr.add
 by_cases h : i = 0 <;> by_cases h' : j = 0 <;> simp [h, h'] <;> omega
theorem decs_came {H : Type} {enc : TypeId × Value → H} {W : World} {t fuel len cap : Nat} {a0 : Option Addr} {d : DataW H} {p : List MemPlace} (ht : Tryz.prog.underlying t = some (.slice 25))
   (hf : DataW.trod enc Tryz.prog W 0 (fun _ => true) true fuel t (Value.slice a0 len cap).cells.toList = some (d, p)) : ∃ r, Hid (Raws W W.heap.size a0 len cap r) := by
 rcases DataW.trod_slice ht hf with ⟨hcs, _⟩ | ⟨a, l, c, elems, rest, n, _, hcs, _, hb, hl, hm, hlen, hel, _, _⟩
 · simp [Value.cells] at hcs
   obtain ⟨rfl, rfl, rfl⟩ := hcs
   exact ⟨fun _ => ⟨false, none, 0, 0, [], 0⟩, show Raws _ _ _ _ _ _ from ⟨Nat.le_refl _, Nat.zero_le _, .inl rfl, fun j hj => absurd hj (Nat.not_lt_zero _), fun _ => rfl⟩⟩
 · simp [Value.cells] at hcs
   obtain ⟨rfl, rfl, rfl⟩ := hcs
   have hc1 : Tryz.prog.cellsOf 25 = 3 := by kernel_rfl
   have each : ∀ i, ∃ q : Rw, i < len → W.cell? (a.add (i * 3)) = some (.bool q.b) ∧ W.cell? (a.add (i * 3 + 1)) = some (.slice q.A q.n q.c) ∧ W.cell? (a.add (i * 3 + 2)) = some (.int .i64 q.k) ∧ Lim W W.heap.size q.A q.n q.c q.xs := by
     intro i
     by_cases hi : i < len
     · have h0 := hel i hi
       rw [hc1, List.getElem?_eq_getElem (by omega), Option.bind_eq_some_iff] at h0
       obtain ⟨cs', hcs, hy⟩ := h0
       have hcc := World.cells?_some hcs
       obtain ⟨y0, y1, y2, m, hx, hl3, h0, h1, h2⟩ := trod_struct3 Tryz.underlying25 hy
       obtain ⟨x0, x1, x2, rfl⟩ : ∃ x0 x1 x2, cs' = [x0, x1, x2] := by
         match cs', hcc.2.1 with
         | [x0, x1, x2], _ => exact ⟨x0, x1, x2, rfl⟩
       have g0 : DataW.trod enc Tryz.prog W 0 (fun _ => true) true m 4 (List.take (Tryz.prog.cellsOf 4) (List.drop 0 [x0, x1, x2])) = some y0 := h0
       have g1 : DataW.trod enc Tryz.prog W 0 (fun _ => true) true m 23 (List.take (Tryz.prog.cellsOf 23) (List.drop 1 [x0, x1, x2])) = some y1 := h1
       have g2 : DataW.trod enc Tryz.prog W 0 (fun _ => true) true m 3 (List.take (Tryz.prog.cellsOf 3) (List.drop 2 [x0, x1, x2])) = some y2 := h2
       rw [show Tryz.prog.cellsOf 4 = 1 from by kernel_rfl] at g0
       rw [show Tryz.prog.cellsOf 23 = 1 from by kernel_rfl] at g1
       rw [show Tryz.prog.cellsOf 3 = 1 from by kernel_rfl] at g2
       have k0 : W.cell? (a.add (i * 3)) = some x0 := by have := hcc.2.2 0 (by omega); simpa [Addr.add] using this
       have k1 : W.cell? (a.add (i * 3 + 1)) = some x1 := by have := hcc.2.2 1 (by omega); rw [add_twice] at this; simpa using this
       have k2 : W.cell? (a.add (i * 3 + 2)) = some x2 := by have := hcc.2.2 2 (by omega); rw [add_twice] at this; simpa using this
       obtain ⟨b, e0, _⟩ := DataW.trod_bool Tryz.underlying4 g0
       obtain ⟨k, e2, _⟩ := DataW.trod_int Tryz.underlying3 g2
       have e0 : x0 = .bool b := by simpa using e0
       have e2 : x2 = .int .i64 k := by simpa using e2
       rw [e0] at k0
       rw [e2] at k2
       rcases DataW.trod_slice Tryz.underlying23 g1 with ⟨e1, _⟩ | ⟨a', l', c', _, _, _, _, e1, _⟩
       · have e1 : x1 = .slice none 0 0 := by simpa using e1
         rw [e1] at k1
         exact ⟨⟨b, none, 0, 0, [], k⟩, fun _ => ⟨k0, k1, k2, Lim.nil⟩⟩
       · have e1 : x1 = .slice (some a') l' c' := by simpa using e1
         subst e1
         obtain ⟨xs, hxs⟩ := lim_came (d := y1.1) (p := y1.2) (a0 := some a') (len := l') (cap := c') Tryz.underlying23 g1
         exact ⟨⟨b, some a', l', c', xs, k⟩, fun _ => ⟨k0, k1, k2, hxs.out⟩⟩
     · exact ⟨⟨false, none, 0, 0, [], 0⟩, fun h => absurd h hi⟩
   obtain ⟨f, hf⟩ := Classical.axiomOfChoice each
   refine ⟨f, show Raws _ _ _ _ _ _ from ⟨hl, hm, ?_, fun j hj => (hf j hj).2.2.2, fun h => by cases h⟩⟩
   rcases Nat.eq_zero_or_pos len with h0 | h0
   · exact .inl h0
   · have hc0 := (hf 0 h0).1
     obtain ⟨b, o, s⟩ := a
     have hs : s = none := by simpa [Addr.add] using World.cell?_spot hc0
     subst hs
     refine .inr ⟨b, o, rfl, by simpa [Addr.add] using World.block_lt_of_cell? W _ hc0, fun j hj => ?_⟩
     have hc := hf j hj
     rw [Addr.add_lit, Addr.add_lit, Addr.add_lit] at hc
     exact ⟨hc.1, by rw [Nat.add_assoc]; exact hc.2.1, by rw [Nat.add_assoc]; exact hc.2.2.1⟩
end Go.Proofs.YthlhpgphmfnlgaaGreat
/-
 What DecStrips needs of plain mathematics: a decimal stripped; sums of parts.
-/
namespace Go.Proofs.YthlhpgphmfnlgaaGreat
open Go.RowKit
theorem tz_div {a : Nat} (ha : 0 < a) : ∀ k, k ≤ tz a → a / 10 ^ k * 10 ^ k = a ∧ tz (a / 10 ^ k) = tz a - k := by
 intro k
 induction k with
 | zero => intro _; simp
 | succ k ih =>
   intro hk
   obtain ⟨h1, h2⟩ := ih (by omega)
   have e : a / 10 ^ (k + 1) = a / 10 ^ k / 10 := by rw [Nat.pow_succ, Nat.div_div_eq_div_mul]
   have hb : 0 < a / 10 ^ k := by
     rcases Nat.eq_zero_or_pos (a / 10 ^ k) with h0 | h0
     · rw [h0] at h1; omega
     · exact h0
   have hz : a / 10 ^ k % 10 = 0 := by
     rcases Nat.eq_zero_or_pos (a / 10 ^ k % 10) with h0 | h0
     · exact h0
     · have := tz_no (a := a / 10 ^ k) (by omega); omega
   have hy := tz_yes hb hz
   rw [e]
   refine ⟨?_, by omega⟩
   rw [Nat.pow_succ, Nat.mul_comm (10 ^ k) 10, ← Nat.mul_assoc]
   have : a / 10 ^ k / 10 * 10 = a / 10 ^ k := by omega
   rw [this, h1]
theorem strip_abs (i : Int) (s L : Nat) : (stripI i s L).natAbs * 10 ^ stripK i s L = i.natAbs ∧ (i ≠ 0 → tz (stripI i s L).natAbs = tz i.natAbs - stripK i s L) := by
 unfold stripI
 rw [abs_sgn]
 by_cases h0 : i = 0
 · subst h0; exact ⟨by simp, fun h => absurd rfl h⟩
 · have hk : stripK i s L ≤ tz i.natAbs := by unfold stripK; rw [if_neg h0]; omega
   obtain ⟨h1, h2⟩ := tz_div (a := i.natAbs) (by omega) _ hk
   exact ⟨h1, fun _ => h2⟩
theorem strip_zero' {i : Int} {s L : Nat} (h : stripI i s L = 0) : i = 0 := by
 have := (strip_abs i s L).1
 rw [h] at this
 simp at this; omega
theorem strip_none (s L : Nat) : stripI 0 s L = 0 := by
 unfold stripI
 cases ngB 0 <;> simp [sgn]
theorem strip_mul (i : Int) (s L : Nat) : stripI i s L * ((10 ^ stripK i s L : Nat) : Int) = i := by
 have h1 := (strip_abs i s L).1
 have h2 : ngB (stripI i s L) = (ngB i && decide (0 < i.natAbs / 10 ^ stripK i s L)) := by unfold stripI; exact ng_sgn _ _
 have e : (stripI i s L).natAbs = i.natAbs / 10 ^ stripK i s L := by unfold stripI; rw [abs_sgn]
 have hi := sgn_ng i
 generalize 10 ^ stripK i s L = P at *
 generalize stripI i s L = x at *
 rw [← h1] at hi
 refine Eq.trans ?_ hi
 rcases Nat.eq_zero_or_pos x.natAbs with h0 | h0
 · have hx : x = 0 := by omega
   rw [hx]
   cases ngB i <;> simp [sgn]
 · rw [← e, decide_eq_true h0, Bool.and_true] at h2
   rw [← h2]
   unfold sgn ngB
   by_cases hx : x < 0
   · rw [decide_eq_true hx, if_pos rfl, Int.natCast_mul, ← Int.neg_mul]; congr 1; omega
   · rw [decide_eq_false hx, if_neg (by simp), Int.natCast_mul]; congr 1; omega
end Go.Proofs.YthlhpgphmfnlgaaGreat
