/-
 Rows that grow by append, no cell of whose blocks is a limb: then no number lies in them. And what a drawn region of appends needs.
-/
import Derived.Test.YthlhpgphmfnlgaaGreatRouDa
import Derived.Test.YthlhpgphmfnlgaaGreatLineF
set_option maxRecDepth 100000
set_option maxHeartbeats 32000000
set_option linter.unusedVariables false
set_option linter.unusedSimpArgs false
namespace Go.Proofs.YthlhpgphmfnlgaaGreat
open Go.RowKit
def Bare (w : World) (v : Value) : Prop := ∀ g, v.ownBlock = some g → ∀ cur ty fr, w.heap[g]? = some (.cells cur ty fr) → ∀ u ∈ cur.toList, NoLimb u
section
variable {w w' : World} {v : Value} {base n size : Nat} {e : TypeId} {xs : List Value}
theorem Bare.nil (w : World) : Bare w (.slice none 0 0) := fun g h => by cases h
theorem Bare.block (h : Bare w v) (hb : ∀ g, v.ownBlock = some g → w'.heap[g]? = w.heap[g]?) : Bare w' v := fun g hg cur ty fr hc u hu => h g hg cur ty fr (by rw [← hb g hg]; exact hc) u hu
theorem Bare.on (h : Bare w v) (ho : w.ownsRow base e size v n xs) (hb : Below w.heap.size w w') : Bare w' v := h.block fun g hg => hb.block g (ho.lt g hg).2
theorem Bare.grown (h : Bare w v) (ho : w.ownsRow base e size v n xs) {row : Option Nat} (hg : w.grownBy w' row) (hne : v.ownBlock = none ∨ v.ownBlock ≠ row) : Bare w' v := h.block fun g hv => hg.block g (ho.lt g hv).2 (by
 rw [← hv]
 rcases hne with h1 | h1
 · rw [h1] at hv; cases hv
 · exact h1)
theorem Bare.box {g : Nat} (h : Bare w v) (hne : v.ownBlock ≠ some g) (y0 y1 y2 : Value) : Bare (put3 w g y0 y1 y2) v := h.block fun k hk => by
 have hkg : k ≠ g := fun e => hne (by rw [hk, e])
 show (World.setCell (World.setCell (World.setCell w _ _) _ _) _ _).heap[k]? = _
 rw [Below.heap_setCell _ _ _ _ hkg, Below.heap_setCell _ _ _ _ hkg, Below.heap_setCell _ _ _ _ hkg]
theorem OffV.bare {B m c a : Nat} {A : Option Addr} (h : Bare w v) (ho : w.ownsRow base e size v n xs) (hN : Num w B A m c a) : OffV (A, m, c) v := by
 intro hp ad hA hv
 change 0 < m at hp
 change A = some ad at hA
 rcases hN.row with h0 | ⟨b, o, hb, _, hc⟩
 · have h1 := hN.len
   have h2 : (vals (dg a)).length = m := by unfold vals; rw [List.length_map]; exact h1
   rw [h0] at h2
   simp at h2
   omega
 · rw [hA] at hb
   injection hb with hb
   rw [hb] at hv
   change v.ownBlock = some b at hv
   rcases ho.2 with ⟨h0, _⟩ | ⟨g, cap, cur, h0, _, hg, _⟩
   · rw [h0] at hv; cases hv
   · rw [h0] at hv
     have hgb : g = b := by simpa [Value.ownBlock] using hv
     subst hgb
     have h1 := hN.len
     have h2 := hc 0 _ (vals_get (xs := dg a) (j := 0) (by omega))
     rw [cell_of_row w g _ _ _ (0, 0) hg] at h2
     have h3 : (Value.int IntKind.u32 ((gd (dg a) 0 : Nat) : Int)) ∈ cur.toList := Array.mem_toList_iff.2 (Array.mem_of_getElem? h2)
     exact h g (by rw [h0]; rfl) cur e (0, 0) hg _ h3 _ rfl
end
theorem zero_bare (k : Nat) : ∀ u ∈ (Builtin.zeroCells (Value.agg #[.bool false, .slice none 0 0, .int .i64 0]).cells k).toList, NoLimb u := by
 intro u hu
 unfold Builtin.zeroCells at hu
 simp only [Array.toList_map, List.mem_map] at hu
 obtain ⟨i, _, rfl⟩ := hu
 have e : (Value.agg #[.bool false, .slice none 0 0, .int .i64 0]).cells = #[.bool false, .slice none 0 0, .int .i64 0] := by simp [Value.cells]
 rw [e]
 have h3 : i % 3 = 0 ∨ i % 3 = 1 ∨ i % 3 = 2 := by omega
 show NoLimb (#[Value.bool false, .slice none 0 0, .int .i64 0][i % 3]!)
 rcases h3 with h | h | h <;> rw [h]
 · exact noLimb_bool _
 · exact noLimb_slice _ _ _
 · exact noLimb_int _
theorem run_append_bare {w : World} (ty : TypeId) (base : Nat) (i : TypeInfo) (hi : Tryz.prog.info? 25 = some i) (hz : i.zero = some (.agg #[.bool false, .slice none 0 0, .int .i64 0])) (hsize : i.size = 3) (hby : i.bytes = 40)
   (v : Value) (n : Nat) (xs : List Value) (hown : w.ownsRow base 25 3 v n xs) (hbare : Bare w v)
   (ad : Addr) (c : Nat) (q : DQ) (hnews : ∀ j u, (drow [q])[j]? = some u → w.cell? (ad.add j) = some u)
   (hn : n ≤ 1000) (hbase : base ≤ w.heap.size) (H : Nat) (hH : w.heap.size = H) :
   ∃ g cap w', (Builtin.append_ #[26, 26] ty #[v, .slice (some ad) 1 c]).run Tryz.prog w = .ok (.slice (some ⟨g, 0, none⟩) (n + 1) cap) w' ∧
     w'.ownsRow base 25 3 (.slice (some ⟨g, 0, none⟩) (n + 1) cap) (n + 1) (xs ++ drow [q]) ∧ w.grownBy w' v.ownBlock ∧ (v.ownBlock = some g ∨ g = H) ∧ g < w'.heap.size ∧ Bare w' (.slice (some ⟨g, 0, none⟩) (n + 1) cap) := by
 have hnl : ∀ u ∈ drow [q], NoLimb u := by
   intro u hu
   rw [drow_one] at hu
   simp only [List.mem_cons, List.not_mem_nil, or_false] at hu
   rcases hu with rfl | rfl | rfl
   · exact noLimb_bool _
   · exact noLimb_slice _ _ _
   · exact noLimb_int _
 have hl : (drow [q]).length = 1 * 3 := drow_len _
 have hbytes : (n + 1) * 40 ≤ 140737488355328 := by omega
 obtain ⟨g, cap, w', hr, h2, h3, h4, h5⟩ := run_append_lies (P := Tryz.prog) w 26 ty base 25 i _ 3 40 Tryz.underlying26 hi hz hsize hby zcells3 (by decide) v n xs hown ad 1 c (drow [q]) hl hnews (drow_flat _) (by decide) (by unfold maxLen; omega) hbytes hbase H hH
 refine ⟨g, cap, w', hr, h2, h3, h4, h5, ?_⟩
 rcases hown.2 with ⟨rfl, rfl⟩ | ⟨g0, cap0, cur, rfl, hbg, hg, hnc, hcm, hcs, htake⟩
 · have hr2 := run_append_nil (P := Tryz.prog) w 26 ty 25 i _ Tryz.underlying26 hi hz ad 1 c (drow [q]) (by rw [hsize]; exact hl) hnews (by omega) (by omega) (by rw [hby]; omega)
   rw [hr2] at hr
   injection hr with hv hw
   subst hw
   injection hv with hv1 hv2 hv3
   injection hv1 with hv1
   injection hv1 with hv1
   intro k hk cur' ty' fr hc u hu
   have hkg : g = k := by simpa [Value.ownBlock] using hk
   subst hkg; subst hv1
   have e := heap_alloc_new w.drew (.cells ((drow [q]).toArray ++ Builtin.zeroCells (Value.agg #[.bool false, .slice none 0 0, .int .i64 0]).cells (grownCap w 1 0 25 - 1)) 25)
   rw [show w.drew.heap.size = w.heap.size from rfl] at e
   rw [e] at hc
   injection hc with hc
   injection hc with hc
   rw [← hc] at hu
   simp only [Array.toList_append, List.mem_append] at hu
   rcases hu with hu | hu
   · exact hnl u hu
   · exact zero_bare _ u hu
 · by_cases hroom : n + 1 ≤ cap0
   · have hfit : n * i.size + (drow [q]).length ≤ cur.size := by rw [hl, hcs, hsize]; omega
     have hr2 := run_append_room (P := Tryz.prog) w 26 ty 25 i Tryz.underlying26 hi g0 n cap0 cur hg ad 1 c (drow [q]) (by rw [hsize]; exact hl) hnews (drow_flat _) hroom hfit
     rw [hr2] at hr
     injection hr with hv hw
     subst hw
     injection hv with hv1 hv2 hv3
     injection hv1 with hv1
     injection hv1 with hv1
     intro k hk cur' ty' fr hc u hu
     have hkg : g = k := by simpa [Value.ownBlock] using hk
     subst hkg; subst hv1
     rw [setRow_heap w g0 cur _ _ _ hg] at hc
     injection hc with hc
     injection hc with hc
     rw [← hc] at hu
     simp only [List.mem_append] at hu
     have hold := hbare g0 rfl cur _ _ hg
     rcases hu with (hu | hu) | hu
     · exact hold u (List.mem_of_mem_take hu)
     · exact hnl u hu
     · exact hold u (List.mem_of_mem_drop hu)
   · have holds : ∀ j u, xs[j]? = some u → w.cell? ((⟨g0, 0, none⟩ : Addr).add j) = some u := hown.cells (g := g0) rfl
     have hr2 := run_append_grow (P := Tryz.prog) w 26 ty 25 i _ Tryz.underlying26 hi hz ⟨g0, 0, none⟩ n cap0 xs (by rw [hsize]; exact hown.1) holds ad 1 c (drow [q]) (by rw [hsize]; exact hl) hnews (by omega) (by omega) (growslice_fits (by omega) (by rw [hby]; exact hbytes))
     rw [hr2] at hr
     injection hr with hv hw
     subst hw
     injection hv with hv1 hv2 hv3
     injection hv1 with hv1
     injection hv1 with hv1
     intro k hk cur' ty' fr hc u hu
     have hkg : g = k := by simpa [Value.ownBlock] using hk
     subst hkg; subst hv1
     have e := heap_alloc_new w.drew (.cells (xs.toArray ++ (drow [q]).toArray ++ Builtin.zeroCells (Value.agg #[.bool false, .slice none 0 0, .int .i64 0]).cells (grownCap w (n + 1) cap0 25 - (n + 1))) 25)
     rw [show w.drew.heap.size = w.heap.size from rfl] at e
     rw [e] at hc
     injection hc with hc
     injection hc with hc
     rw [← hc] at hu
     simp only [Array.toList_append, List.mem_append] at hu
     have hold := hbare g0 rfl cur _ _ hg
     rcases hu with (hu | hu) | hu
     · rw [← htake] at hu; exact hold u (List.mem_of_mem_take hu)
     · exact hnl u hu
     · exact zero_bare _ u hu
structure Rows2 (w : World) (base : Nat) (v4 v5 : Value) (l4 l5 : List DQ) : Prop where
 grow : Grow w base v4 v5 l4 l5
 bare4 : Bare w v4
 bare5 : Bare w v5
section
variable {w w' : World} {base : Nat} {v4 v5 : Value} {l4 l5 : List DQ}
theorem Rows2.start (w : World) (base : Nat) : Rows2 w base (.slice none 0 0) (.slice none 0 0) [] [] := ⟨Grow.start _ _, Bare.nil _, Bare.nil _⟩
theorem Rows2.step (h : Rows2 w base v4 v5 l4 l5) (hb : Below w.heap.size w w') : Rows2 w' base v4 v5 l4 l5 := ⟨h.grow.step hb, h.bare4.on h.grow.own4 hb, h.bare5.on h.grow.own5 hb⟩
theorem Rows2.swap (h : Rows2 w base v4 v5 l4 l5) : Rows2 w base v5 v4 l5 l4 := ⟨h.grow.swap, h.bare5, h.bare4⟩
theorem Rows2.push4 {g cap : Nat} {q : DQ} (h : Rows2 w base v4 v5 l4 l5) (hq : Num w w.heap.size q.2.1 q.2.2.1 q.2.2.2 q.1.1.natAbs)
   (hown : w'.ownsRow base 25 3 (.slice (some ⟨g, 0, none⟩) (l4.length + 1) cap) (l4.length + 1) (drow l4 ++ drow [q])) (hg : w.grownBy w' v4.ownBlock) (hat : v4.ownBlock = some g ∨ g = w.heap.size) (hb : Bare w' (.slice (some ⟨g, 0, none⟩) (l4.length + 1) cap)) :
   Rows2 w' base (.slice (some ⟨g, 0, none⟩) (l4.length + 1) cap) v5 (l4 ++ [q]) l5 := by
 have hne : v5.ownBlock = none ∨ v5.ownBlock ≠ v4.ownBlock := by
   cases hv : v5.ownBlock with
   | none => exact .inl rfl
   | some k =>
     right
     intro e
     exact h.grow.far k e.symm hv
 exact ⟨h.grow.push4 hq (OffV.bare h.bare4 h.grow.own4 hq) (OffV.bare h.bare5 h.grow.own5 hq) hown hg hat, hb, h.bare5.grown h.grow.own5 hg hne⟩
end
section
variable {P : Program} {ops : Array Oper} {Q : Exit → Act → World → Prop} {S : World → Prop} {N : Nat} {T : List Row3} {sts sos : List Spot3} (R : Reg ops T sts sos)
include R
theorem turn_any (c k : Nat) (ex : List Nat) (j d : Nat) {G : Value → World → Prop} {gd : Option (Nat × Bool)} {p : Op} {l : List (Nat × Value)} (l' : Value → List (Nat × Value)) {a : Act} {w : World} (hj : T[j]? = some (some d, gd, p)) (hN : d < N) (ha : Fr N a l)
   (hrun : ∀ o : Oper, o.op = p → o.guard = gd → Region.wanted o (yielded ops a.tmps) = true ∧ ∃ v w', (execOp a.eval o).run P w = .ok (.value v) w' ∧ G v w') (hs : ∀ v, ∀ q ∈ l' v, q ∈ l ∧ q.1 ≠ d)
   (next : ∀ v w', G v w' → S w' ∧ ∀ a, Fr N a ((d, v) :: l' v) → Line P ops (NoPanic Q) S (c + 1) k (j :: ex) a w') : Turn P ops (NoPanic Q) S c k ex j a w := by
 obtain ⟨o, ho, hd, hg, hp⟩ := R.at_ hj
 obtain ⟨hw, v, w', hrun, hG⟩ := hrun o hp hg
 unfold Turn wpOp
 simp only [ho]
 rw [if_pos hw]
 left
 unfold Oper.wp
 rw [hrun]
 show S w' ∧ _
 refine ⟨(next v w' hG).1, ?_⟩
 rw [upto_more, hd]
 exact (next v w' hG).2 _ (ha.put hN (hs v))
end
section
variable {o : Oper} {ρ : Operand → Value} {x y : Operand} {w : World}
theorem e_buildY {b : Bool} {A : Option Addr} {n c : Nat} {i : Int} (h : o.op = .buildSlice 26 1 #[(0, x)]) (hx : ρ x = .agg #[.bool b, .slice A n c, .int .i64 i]) : (execOp ρ o).run Tryz.prog w = .ok (.value (.slice (some ⟨w.heap.size, 0, none⟩) 1 1)) (w.alloc (.cells #[.bool b, .slice A n c, .int .i64 i] 25)) := by
 unfold execOp; rw [h]
 simp only [hx]
 go_simp
end
end Go.Proofs.YthlhpgphmfnlgaaGreat
