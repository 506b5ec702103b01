/-
  Contracts of layer 11: rows of texts in memory; Parts and the document's.
-/
import Derived.Test.YtaaikbbgbnbmkaaDoorNamD
set_option linter.unusedVariables false
set_option linter.unusedSimpArgs false
namespace Go.Proofs.YtaaikbbgbnbmkaaDoor
open Go.RowKit

/-- Texts as cells. -/
def row11 (L : List (List Nat)) : List Value := L.map fun t => .string (st9 t)
theorem row11_len (L : List (List Nat)) : (row11 L).length = L.length := List.length_map _
theorem row11_flat (L : List (List Nat)) : ∀ u ∈ row11 L, u.oneCell' = true := by
  intro u hu
  obtain ⟨t, _, rfl⟩ := List.mem_map.1 hu
  rfl
theorem row11_push (L : List (List Nat)) (t : List Nat) : row11 (L ++ [t]) = row11 L ++ [.string (st9 t)] := by unfold row11; rw [List.map_append]; rfl
theorem info_txt : (Tryd.prog.info? 9).map (fun i => (i.zero, i.size, i.bytes)) = some (some (.string ⟨#[]⟩), 1, 16) := by kernel_rfl
theorem info_parts11 {i : Option TypeInfo} {z : Value} {s b : Nat} (h : i.map (fun i => (i.zero, i.size, i.bytes)) = some (some z, s, b)) : ∃ i0, i = some i0 ∧ i0.zero = some z ∧ i0.size = s ∧ i0.bytes = b := by
  cases i with
  | none => cases h
  | some i0 =>
    simp only [Option.map_some, Option.some.injEq, Prod.mk.injEq] at h
    exact ⟨i0, rfl, h.1, h.2.1, h.2.2⟩
theorem zcells1 : (Value.string ⟨#[]⟩).cells.size = 1 := by simp [Value.cells]
/-- A row of texts in memory of the call's own. -/
def OwnP (w : World) (base : Nat) (v : Value) (L : List (List Nat)) : Prop := w.ownsRow base 9 1 v L.length (row11 L)
/-- A row of texts that is read. -/
def RdP (w : World) (A : Option Addr) (n c : Nat) (L : List (List Nat)) : Prop := n = L.length ∧ n ≤ c ∧ c ≤ maxLen ∧ (L = [] ∨ ∃ b o, A = some ⟨b, o, none⟩ ∧ b < w.heap.size ∧ ∀ j u, (row11 L)[j]? = some u → w.cell? ⟨b, o + j, none⟩ = some u)
section
variable {w w' : World} {base : Nat} {v : Value} {L : List (List Nat)}
theorem grown10 (hb : Below w.heap.size w w') : w.grownBy w' none := ⟨hb.os, hb.tape, hb.output, hb.size, fun k hk _ => hb.block k hk⟩
theorem OwnP.start (w : World) (base : Nat) : OwnP w base (.slice none 0 0) [] := World.ownsRow_nil _ _ _ _
theorem OwnP.on (h : OwnP w base v L) (hb : Below w.heap.size w w') : OwnP w' base v L := World.ownsRow.kept h (grown10 hb) (by cases hv : v.ownBlock <;> simp)
theorem OwnP.slen (h : OwnP w base v L) : ∃ A c, v = .slice A L.length c := by
  rcases h.2 with ⟨rfl, h0⟩ | ⟨g, cap, cur, rfl, _⟩
  · have : L = [] := List.eq_nil_of_length_eq_zero h0
    subst this
    exact ⟨none, 0, rfl⟩
  · exact ⟨_, _, rfl⟩
theorem RdP.on {A : Option Addr} {n c : Nat} (h : RdP w A n c L) (hb : Below w.heap.size w w') : RdP w' A n c L := by
  obtain ⟨h1, h2, h3, h | ⟨b, o, h4, h5, h6⟩⟩ := h
  · exact ⟨h1, h2, h3, .inl h⟩
  · exact ⟨h1, h2, h3, .inr ⟨b, o, h4, Nat.lt_of_lt_of_le h5 hb.size, fun j u hu => (hb.cell (p := ⟨b, o + j, none⟩) h5).trans (h6 j u hu)⟩⟩
theorem OwnP.rd (h : OwnP w base v L) : ∃ A c, v = .slice A L.length c ∧ RdP w A L.length c L := by
  have hlt := World.ownsRow.lt h
  have hc := fun g e => World.ownsRow.cells h (g := g) e
  rcases h.2 with ⟨rfl, h0⟩ | ⟨g, cap, cur, rfl, hb, hg, h3, h4, _⟩
  · have : L = [] := List.eq_nil_of_length_eq_zero h0
    subst this
    exact ⟨none, 0, rfl, rfl, Nat.le_refl _, Nat.zero_le _, .inl rfl⟩
  · refine ⟨_, _, rfl, rfl, h3, h4, .inr ⟨g, 0, rfl, (hlt g rfl).2, fun j u hu => ?_⟩⟩
    have := hc g rfl j u hu
    rwa [Addr.add_lit] at this
/-- A text that is read. -/
theorem RdP.at_ {A : Option Addr} {n c : Nat} (h : RdP w A n c L) {k : Nat} (hk : k < n) : ∃ b o, A = some ⟨b, o, none⟩ ∧ n ≤ c ∧ c ≤ maxLen ∧ b < w.heap.size ∧ ∃ t, L[k]? = some t ∧ w.cell? ⟨b, o + k, none⟩ = some (.string (st9 t)) := by
  obtain ⟨h1, h2, h3, h | ⟨b, o, h4, h5, h6⟩⟩ := h
  · subst h; subst h1; exact absurd hk (Nat.not_lt_zero _)
  · have hkl : k < L.length := by omega
    refine ⟨b, o, h4, h2, h3, h5, L[k], List.getElem?_eq_getElem hkl, h6 k _ ?_⟩
    unfold row11
    rw [List.getElem?_map, List.getElem?_eq_getElem hkl]; rfl
theorem txt_new (X : ByteArray) (ty : TypeId) : ∀ j u, ([.string X] : List Value)[j]? = some u → (w.alloc (.cells #[.string X] ty)).cell? ((⟨w.heap.size, 0, none⟩ : Addr).add j) = some u := by
  intro j u hu
  rw [Addr.add_lit, cell_of_row _ w.heap.size _ _ ty (0, 0) (heap_alloc_new w _), Nat.zero_add, ← Array.getElem?_toList]
  simpa using hu
theorem below_grown {w0 w w' : World} {v : Value} {l : List (List Nat)} (h : Below w0.heap.size w0 w) (ho : OwnP w w0.heap.size v l) (hg : w.grownBy w' v.ownBlock) : Below w0.heap.size w0 w' :=
  h.grown hg h.size (fun g e => (World.ownsRow.lt ho g e).1)
end
/-- What Parts hands back. -/
def RetP (W : World) (L : List (List Nat)) (e : Ending) (w' : World) : Prop := ∃ A c, e = .returned (.slice A L.length c) ∧ RdP w' A L.length c L ∧ Below W.heap.size W w'

theorem split_58 : ∀ (k : Nat) (s : ByteArray), Lib.countB s ⟨#[58]⟩ = k → (Lib.splitB ⟨#[58]⟩ 0 k s).map bs9 = prt (bs9 s) := by
  intro k
  induction k with
  | zero =>
    intro s hk
    rw [Lib.splitB_zero]
    rcases index_58 s.data.toList with ⟨h1, _⟩ | ⟨_, h2⟩
    · rw [prt_no (l := bs9 s) h1]; rfl
    · have := Lib.countB_hit s ⟨#[58]⟩ _ (by decide) h2
      omega
  | succ k ih =>
    intro s hk
    rcases index_58 s.data.toList with ⟨h1, h2⟩ | ⟨h1, h2⟩
    · have := Lib.countB_miss s ⟨#[58]⟩ h2
      omega
    · have hc := Lib.countB_hit s ⟨#[58]⟩ _ (by decide) h2
      rw [Lib.splitB_hit _ 0 k s _ h2, List.map_cons]
      have e1 : bs9 (s.extract ((hdc (s.data.toList.map UInt8.toNat)).length + (⟨#[58]⟩ : ByteArray).size) s.size) = bdc (bs9 s) := by rw [bs9_drop]; rfl
      rw [ih _ (by omega), e1, prt_cut (l := bs9 s) h1, Nat.add_zero, bs9_take]
      have e2 : (bs9 s).take (hdc (s.data.toList.map UInt8.toNat)).length = hdc (bs9 s) := (hdc_take (l := bs9 s) h1).symm
      rw [e2]
set_option maxRecDepth 100000 in
theorem split_any (s : ByteArray) (w : World) (hs : s.size ≤ 1000000) (hm : MaxLen w) : Calls Tryd.prog 32 #[.string s, .string ⟨#[58]⟩] w (RetP w (prt (bs9 s))) := by
  obtain ⟨m, hm⟩ := hm
  refine (Tryd.strings_Split s ⟨#[58]⟩ m w (by omega) hm (by decide)).mono ?_
  rintro e w' ⟨he, hw⟩
  have h1 := split_58 _ s rfl
  have hle := Lib.countB_le ⟨#[58]⟩ (by decide) s.size s (Nat.le_refl _)
  have h2 : (prt (bs9 s)).length = Lib.countB s ⟨#[58]⟩ + 1 := by rw [← h1, List.length_map, Lib.splitB_all ⟨#[58]⟩ (by decide) 0 _ s rfl]
  refine ⟨some ⟨w.heap.size, 0, none⟩, Lib.countB s ⟨#[58]⟩ + 1, by rw [he, h2], ⟨rfl, by rw [h2]; exact Nat.le_refl _, by unfold maxLen; omega, .inr ⟨_, 0, rfl, by rw [hw]; simp, fun j u hu => ?_⟩⟩, by rw [hw]; exact (Below.refl _ _).alloc (Nat.le_refl _) _⟩
  rw [hw, cell_of_row _ w.heap.size _ _ _ (0, 0) (heap_alloc_new w _), ← Array.getElem?_toList, List.toList_toArray, Nat.zero_add]
  rw [← hu, ← h1]
  unfold row11
  rw [List.map_map]
  congr 1
  exact List.map_congr_left fun x _ => by show _ = Value.string (st9 (bs9 x)); rw [st9_bs9]
set_option maxHeartbeats 4000000 in
set_option maxRecDepth 100000 in
theorem parts_any (s : ByteArray) (w : World) (hs : s.size ≤ 1000000) (hm : MaxLen w) : Calls Tryd.prog 8 #[.string s] w (RetP w (prt (bs9 s))) := by
  have HM := Lib.hid hm
  clear hm
  go_enter Tryd.func8, Tryd.ntmps8
  go_wp2_with fail
  refine (split_any s _ hs HM.out).mono ?_; rintro e w1 ⟨A, c, rfl, h, hb⟩
  go_wp2_with fail
  go_ret
  exact ⟨_, _, rfl, h, hb⟩

end Go.Proofs.YtaaikbbgbnbmkaaDoor
