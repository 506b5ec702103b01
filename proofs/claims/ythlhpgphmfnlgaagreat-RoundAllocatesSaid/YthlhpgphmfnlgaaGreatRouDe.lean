/-
 The state of a walk beside two rows that grow (RS), and beside two rows that are written (RZ).
-/
import Derived.Test.YthlhpgphmfnlgaaGreatRouDd
set_option maxRecDepth 100000
set_option maxHeartbeats 32000000
set_option linter.unusedVariables false
set_option linter.unusedSimpArgs false
namespace Go.Proofs.YthlhpgphmfnlgaaGreat
open Go.RowKit
theorem Box.block {w w' : World} {g : Nat} {x0 x1 x2 : Value} (h : Box w g x0 x1 x2) (hb : w'.heap[g]? = w.heap[g]?) (hs : w.heap.size ≤ w'.heap.size) : Box w' g x0 x1 x2 :=
 ⟨(World.cell?_of_block (a := ⟨g, 0, none⟩) hb).trans h.c0, (World.cell?_of_block (a := ⟨g, 1, none⟩) hb).trans h.c1, (World.cell?_of_block (a := ⟨g, 2, none⟩) hb).trans h.c2, (World.frozen?_of_block (a := ⟨g, 0, none⟩) hb).trans h.f0, (World.frozen?_of_block (a := ⟨g, 1, none⟩) hb).trans h.f1, (World.frozen?_of_block (a := ⟨g, 2, none⟩) hb).trans h.f2, Nat.lt_of_lt_of_le h.lt hs⟩
structure RS (w0 w : World) (ns : List (Option Addr × Nat × Nat × Nat)) (bs : List (Nat × Value × Value × Value)) (v4 v5 : Value) (l4 l5 : List DQ) : Prop where
 st : St w0 w ns bs
 rows : Rows2 w w0.heap.size v4 v5 l4 l5
 far : ∀ q ∈ bs, v4.ownBlock ≠ some q.1 ∧ v5.ownBlock ≠ some q.1
section
variable {w0 w w' : World} {ns : List (Option Addr × Nat × Nat × Nat)} {bs : List (Nat × Value × Value × Value)} {v4 v5 : Value} {l4 l5 : List DQ}
theorem RS.start (h : St w0 w ns bs) : RS w0 w ns bs (.slice none 0 0) (.slice none 0 0) [] [] := ⟨h, Rows2.start _ _, fun q _ => ⟨by simp [Value.ownBlock], by simp [Value.ownBlock]⟩⟩
theorem RS.step (h : RS w0 w ns bs v4 v5 l4 l5) (hb : Below w.heap.size w w') : RS w0 w' ns bs v4 v5 l4 l5 := ⟨h.st.step hb, h.rows.step hb, h.far⟩
theorem RS.push (h : RS w0 w ns bs v4 v5 l4 l5) (hb : Below w.heap.size w w') {A : Option Addr} {n c a : Nat} (hn : Num w' w'.heap.size A n c a) : RS w0 w' ((A, n, c, a) :: ns) bs v4 v5 l4 l5 := ⟨h.st.push hb hn, h.rows.step hb, h.far⟩
theorem RS.sub {ns' : List (Option Addr × Nat × Nat × Nat)} {bs' : List (Nat × Value × Value × Value)} (h : RS w0 w ns bs v4 v5 l4 l5) (h1 : ∀ q ∈ ns', q ∈ ns) (h2 : ∀ q ∈ bs', q ∈ bs) : RS w0 w ns' bs' v4 v5 l4 l5 := ⟨h.st.sub h1 h2, h.rows, fun q hq => h.far q (h2 q hq)⟩
theorem RS.lay {x0 x1 x2 : Value} {t : TypeId} {k : Nat} (h : RS w0 w ns bs v4 v5 l4 l5) (hk : k = w.heap.size) : RS w0 (w.alloc (.cells #[x0, x1, x2] t)) ns ((k, x0, x1, x2) :: bs) v4 v5 l4 l5 := by
 have hb := (Below.refl w.heap.size w).alloc (Nat.le_refl _) (.cells #[x0, x1, x2] t)
 refine ⟨h.st.lay hk, h.rows.step hb, fun q hq => ?_⟩
 rcases List.mem_cons.1 hq with rfl | hq
 · constructor
   · intro e; have := (h.rows.grow.own4.lt _ e).2; change k < _ at this; omega
   · intro e; have := (h.rows.grow.own5.lt _ e).2; change k < _ at this; omega
 · exact h.far q hq
theorem RS.store {k : Nat} {x0 x1 x2 : Value} (h : RS w0 w ns bs v4 v5 l4 l5) (hm : (k, x0, x1, x2) ∈ bs) (h0 : NoLimb x0) (h1 : NoLimb x1) (h2 : NoLimb x2) (bs' : List (Nat × Value × Value × Value)) (hs : ∀ q ∈ bs', q ∈ bs ∧ k ≠ q.1) (y0 y1 y2 : Value) :
   RS w0 (put3 w k y0 y1 y2) ns ((k, y0, y1, y2) :: bs') v4 v5 l4 l5 := by
 have X := h.st.box _ hm
 have F := h.far _ hm
 refine ⟨h.st.store hm h0 h1 h2 bs' hs y0 y1 y2, ⟨h.rows.grow.box X.1 h0 h1 h2 F.1 F.2 y0 y1 y2, h.rows.bare4.box F.1 y0 y1 y2, h.rows.bare5.box F.2 y0 y1 y2⟩, fun q hq => ?_⟩
 rcases List.mem_cons.1 hq with rfl | hq
 · exact F
 · exact h.far q (hs q hq).1
theorem RS.swap (h : RS w0 w ns bs v4 v5 l4 l5) : RS w0 w ns bs v5 v4 l5 l4 := ⟨h.st, h.rows.swap, fun q hq => ⟨(h.far q hq).2, (h.far q hq).1⟩⟩
theorem RS.append4 {g cap : Nat} {q : DQ} (h : RS w0 w ns bs v4 v5 l4 l5) (hq : (q.2.1, q.2.2.1, q.2.2.2, q.1.1.natAbs) ∈ ns)
   (hown : w'.ownsRow w0.heap.size 25 3 (.slice (some ⟨g, 0, none⟩) (l4.length + 1) cap) (l4.length + 1) (drow l4 ++ drow [q])) (hg : w.grownBy w' v4.ownBlock) (hat : v4.ownBlock = some g ∨ g = w.heap.size) (hb : Bare w' (.slice (some ⟨g, 0, none⟩) (l4.length + 1) cap)) :
   RS w0 w' ns bs (.slice (some ⟨g, 0, none⟩) (l4.length + 1) cap) v5 (l4 ++ [q]) l5 := by
 refine ⟨⟨h.st.bel.grown hg h.st.bel.size (fun k hk => (h.rows.grow.own4.lt k hk).1), fun p hp => num_grown (h.st.num p hp) (Nat.le_refl _) hg (OffV.bare h.rows.bare4 h.rows.grow.own4 (h.st.num p hp)), fun p hp => ?_⟩, h.rows.push4 (h.st.num _ hq) hown hg hat hb, fun p hp => ⟨fun e => ?_, (h.far p hp).2⟩⟩
 · have X := h.st.box p hp
   exact ⟨X.1.block (hg.block p.1 X.1.lt (fun e => (h.far p hp).1 e.symm)) hg.size, X.2⟩
 · have e2 : g = p.1 := by simpa [Value.ownBlock] using e
   rcases hat with h1 | h1
   · exact (h.far p hp).1 (by rw [h1, e2])
   · have := (h.st.box p hp).1.lt
     omega
end
structure RZ (w0 w : World) (ns : List (Option Addr × Nat × Nat × Nat)) (bs : List (Nat × Value × Value × Value)) (g : Nat) (l : List DQ) (g' : Nat) (l' : List DQ) : Prop where
 st : St w0 w ns bs
 row : RowQ w g l
 row' : RowQ w g' l'
 num : ∀ j, j < l.length → Num w w.heap.size (pOf l j).1 (pOf l j).2.1 (pOf l j).2.2 (dOf l j).1.natAbs
 num' : ∀ j, j < l'.length → Num w w.heap.size (pOf l' j).1 (pOf l' j).2.1 (pOf l' j).2.2 (dOf l' j).1.natAbs
 ne : g ≠ g'
 low : w0.heap.size ≤ g ∧ w0.heap.size ≤ g'
 far : ∀ q ∈ bs, q.1 ≠ g ∧ q.1 ≠ g'
section
variable {w0 w w' : World} {ns : List (Option Addr × Nat × Nat × Nat)} {bs : List (Nat × Value × Value × Value)} {g g' : Nat} {l l' : List DQ}
theorem RZ.step (h : RZ w0 w ns bs g l g' l') (hb : Below w.heap.size w w') : RZ w0 w' ns bs g l g' l' := ⟨h.st.step hb, h.row.on hb, h.row'.on hb, fun j hj => (h.num j hj).on hb, fun j hj => (h.num' j hj).on hb, h.ne, h.low, h.far⟩
theorem RZ.push (h : RZ w0 w ns bs g l g' l') (hb : Below w.heap.size w w') {A : Option Addr} {n c a : Nat} (hn : Num w' w'.heap.size A n c a) : RZ w0 w' ((A, n, c, a) :: ns) bs g l g' l' :=
 ⟨h.st.push hb hn, h.row.on hb, h.row'.on hb, fun j hj => (h.num j hj).on hb, fun j hj => (h.num' j hj).on hb, h.ne, h.low, h.far⟩
theorem RZ.sub {ns' : List (Option Addr × Nat × Nat × Nat)} {bs' : List (Nat × Value × Value × Value)} (h : RZ w0 w ns bs g l g' l') (h1 : ∀ q ∈ ns', q ∈ ns) (h2 : ∀ q ∈ bs', q ∈ bs) : RZ w0 w ns' bs' g l g' l' :=
 ⟨h.st.sub h1 h2, h.row, h.row', h.num, h.num', h.ne, h.low, fun q hq => h.far q (h2 q hq)⟩
theorem RZ.swap (h : RZ w0 w ns bs g l g' l') : RZ w0 w ns bs g' l' g l := ⟨h.st, h.row', h.row, h.num', h.num, h.ne.symm, h.low.symm, fun q hq => (h.far q hq).symm⟩
theorem RZ.store {k : Nat} {x0 x1 x2 : Value} (h : RZ w0 w ns bs g l g' l') (hm : (k, x0, x1, x2) ∈ bs) (h0 : NoLimb x0) (h1 : NoLimb x1) (h2 : NoLimb x2) (bs' : List (Nat × Value × Value × Value)) (hs : ∀ q ∈ bs', q ∈ bs ∧ k ≠ q.1) (y0 y1 y2 : Value) :
   RZ w0 (put3 w k y0 y1 y2) ns ((k, y0, y1, y2) :: bs') g l g' l' := by
 have X := h.st.box _ hm
 have F := h.far _ hm
 have e : (put3 w k y0 y1 y2).heap.size = w.heap.size := by simp
 refine ⟨h.st.store hm h0 h1 h2 bs' hs y0 y1 y2, ((h.row.far _ _ F.1).far _ _ F.1).far _ _ F.1, ((h.row'.far _ _ F.2).far _ _ F.2).far _ _ F.2, fun j hj => ?_, fun j hj => ?_, h.ne, h.low, fun q hq => ?_⟩
 · rw [e]; exact Lim.put3 (h.num j hj) X.1 h0 h1 h2 y0 y1 y2
 · rw [e]; exact Lim.put3 (h.num' j hj) X.1 h0 h1 h2 y0 y1 y2
 · rcases List.mem_cons.1 hq with rfl | hq
   · exact F
   · exact h.far q (hs q hq).1
theorem RZ.put (h : RZ w0 w ns bs g l g' l') {j : Nat} (hj : j < l.length) (q : DQ) (hq : Num w w.heap.size q.2.1 q.2.2.1 q.2.2.2 q.1.1.natAbs) : RZ w0 (((w.setCell ⟨g, j * 3, none⟩ (.bool (ngB q.1.1))).setCell ⟨g, j * 3 + 1, none⟩ (.slice q.2.1 q.2.2.1 q.2.2.2)).setCell ⟨g, j * 3 + 2, none⟩ (.int .i64 (q.1.2 : Int))) ns bs g (l.set j q) g' l' := by
 have hz : (((w.setCell ⟨g, j * 3, none⟩ (.bool (ngB q.1.1))).setCell ⟨g, j * 3 + 1, none⟩ (.slice q.2.1 q.2.2.1 q.2.2.2)).setCell ⟨g, j * 3 + 2, none⟩ (.int .i64 (q.1.2 : Int))).heap.size = w.heap.size := by simp
 have fit : ∀ {A : Option Addr} {n c a : Nat}, Num w w.heap.size A n c a → Num (((w.setCell ⟨g, j * 3, none⟩ (.bool (ngB q.1.1))).setCell ⟨g, j * 3 + 1, none⟩ (.slice q.2.1 q.2.2.1 q.2.2.2)).setCell ⟨g, j * 3 + 2, none⟩ (.int .i64 (q.1.2 : Int))) (((w.setCell ⟨g, j * 3, none⟩ (.bool (ngB q.1.1))).setCell ⟨g, j * 3 + 1, none⟩ (.slice q.2.1 q.2.2.1 q.2.2.2)).setCell ⟨g, j * 3 + 2, none⟩ (.int .i64 (q.1.2 : Int))).heap.size A n c a := fun h' => by
   rw [hz]; exact RowQ.num_put h' h.row hj _ _ _
 refine ⟨⟨?_, fun q' hq' => fit (h.st.num q' hq'), fun q' hq' => ⟨(((h.st.box q' hq').1.far _ _ ?_).far _ _ ?_).far _ _ ?_, (h.st.box q' hq').2⟩⟩, h.row.store hj q, ((h.row'.far _ _ h.ne).far _ _ h.ne).far _ _ h.ne, fun k hk => ?_, fun k hk => fit (h.num' k hk), h.ne, h.low, h.far⟩
 · exact (((h.st.bel.setCell (p := ⟨g, j * 3, none⟩) h.low.1 _).setCell (p := ⟨g, j * 3 + 1, none⟩) h.low.1 _).setCell (p := ⟨g, j * 3 + 2, none⟩) h.low.1 _)
 · exact fun e => (h.far q' hq').1 e.symm
 · exact fun e => (h.far q' hq').1 e.symm
 · exact fun e => (h.far q' hq').1 e.symm
 · rw [List.length_set] at hk
   rw [pOf_set hj, dOf_set hj]
   by_cases e : k = j
   · rw [if_pos e, if_pos e]; exact fit hq
   · rw [if_neg e, if_neg e]; exact fit (h.num k hk)
end
theorem RS.rz {w0 w : World} {ns : List (Option Addr × Nat × Nat × Nat)} {bs : List (Nat × Value × Value × Value)} {A4 A5 : Option Addr} {j c4 c5 : Nat} {l4 l5 : List DQ} (h : RS w0 w ns bs (.slice A4 j c4) (.slice A5 j c5) l4 l5) (hl4 : l4.length = j) (hl5 : l5.length = j) (hj : 0 < j) :
   ∃ g g', A4 = some ⟨g, 0, none⟩ ∧ A5 = some ⟨g', 0, none⟩ ∧ j ≤ c4 ∧ c4 ≤ maxLen ∧ j ≤ c5 ∧ c5 ≤ maxLen ∧ RZ w0 w ns bs g l4 g' l5 := by
 obtain ⟨g, rfl, hg, R, -, hc, hm⟩ := RowQ.of_own h.rows.grow.own4 (by omega)
 obtain ⟨g', rfl, hg', R', -, hc', hm'⟩ := RowQ.of_own h.rows.grow.own5 (by omega)
 refine ⟨g, g', rfl, rfl, by omega, hm, by omega, hm', h.st, R, R', fun k hk => (h.rows.grow.num (dOf l4 k, pOf l4 k) (.inl (List.mem_of_getElem? (of_at hk)))).1, fun k hk => (h.rows.grow.num (dOf l5 k, pOf l5 k) (.inr (List.mem_of_getElem? (of_at hk)))).1, fun e => h.rows.grow.far g rfl (by rw [e]; rfl), ⟨hg, hg'⟩, fun q hq => ⟨fun e => (h.far q hq).1 (by rw [e]; rfl), fun e => (h.far q hq).2 (by rw [e]; rfl)⟩⟩
theorem Fr.listZ {N : Nat} {a : Act} {l : List (Nat × Value)} (h : Fr N a l) : ∃ us : Nat → Value, a = ⟨((List.range N).map us).toArray, []⟩ ∧ ∀ q ∈ l, us q.1 = q.2 := by
 obtain ⟨h1, h2, h3⟩ := h
 refine ⟨fun i => a.tmps.getD i undef, ?_, fun q hq => ?_⟩
 · obtain ⟨t, ds⟩ := a
   simp only at h1 h2
   subst h2
   congr 1
   apply Array.ext
   · simp [h1]
   · intro i hi _
     simp [Array.getD_eq_getD_getElem?, Array.getElem?_eq_getElem hi]
 · simp only
   rw [Array.getD_eq_getD_getElem?, h3 q hq]; rfl
theorem news_box {w : World} {g : Nat} {x0 : Value} {q : DQ} (X : Box w g x0 (.slice q.2.1 q.2.2.1 q.2.2.2) (.int .i64 (q.1.2 : Int))) (h0 : x0 = .bool (ngB q.1.1)) : ∀ j u, (drow [q])[j]? = some u → w.cell? ((⟨g, 0, none⟩ : Addr).add j) = some u := by
 intro j u hu
 rw [Addr.add_lit, Nat.zero_add]
 rw [drow_one] at hu
 subst h0
 match j, hu with
 | 0, hu => injection hu with hu; rw [← hu]; exact X.c0
 | 1, hu => injection hu with hu; rw [← hu]; exact X.c1
 | 2, hu => injection hu with hu; rw [← hu]; exact X.c2
 | j + 3, hu => simp at hu
theorem e_appendY {o : Oper} {ρ : Operand → Value} {x y : Operand} {w : World} {base c : Nat} {v : Value} {l : List DQ} {ad : Addr} {q : DQ} (h : o.op = .call { callee := .builtin .append, args := #[x, y], argTypes := #[26, 26] }) (hx : ρ x = v) (hy : ρ y = .slice (some ad) 1 c)
   (hown : w.ownsRow base 25 3 v l.length (drow l)) (hbare : Bare w v) (hnews : ∀ j u, (drow [q])[j]? = some u → w.cell? (ad.add j) = some u) (hn : l.length ≤ 1000) (hbase : base ≤ w.heap.size) :
   ∃ v' w', (execOp ρ o).run Tryz.prog w = .ok (.value v') w' ∧ ∃ g cap, v' = .slice (some ⟨g, 0, none⟩) (l.length + 1) cap ∧ w'.ownsRow base 25 3 (.slice (some ⟨g, 0, none⟩) (l.length + 1) cap) (l.length + 1) (drow l ++ drow [q]) ∧ w.grownBy w' v.ownBlock ∧ (v.ownBlock = some g ∨ g = w.heap.size) ∧ Bare w' (.slice (some ⟨g, 0, none⟩) (l.length + 1) cap) := by
 obtain ⟨i0, hi, hz0, hz1, hz2⟩ := info_parts3 info_dec
 obtain ⟨g, cap, w', hr, h2, h3, h4, _, h6⟩ := run_append_bare o.type base i0 hi hz0 hz1 hz2 v l.length (drow l) hown hbare ad c q hnews hn hbase _ rfl
 refine ⟨_, w', ?_, g, cap, rfl, h2, h3, h4, h6⟩
 unfold execOp
 simp only [h, resolve, invoke, builtin, Sem.run_bind, Sem.run_pure, Result.andThen_ok, List.map_toArray, List.map_cons, List.map_nil, hx, hy, hr]
end Go.Proofs.YthlhpgphmfnlgaaGreat
