/- What the proof needs, texts ExpN, ExpO, ExpT, ExpU, ExpW, ExpX, ExpY, ExpZ, ExpQ, ExpR, ExpS, ExpV, AmoMath, AmoMathB, AmoMathC, AmoMathD, AmoA, AmoB, AmoC, AmoMathE, AmoD, AmoE, in one text. -/
import Derived.Test.YtjonoedomgacaaaGreatDoorAll38
import Derived.Test.YtjonoedomgacaaaGreatDoorAll30
import Derived.Test.YtjonoedomgacaaaGreatDoorAll37
import Derived.Test.YtjonoedomgacaaaGreatDoorAll27
import Derived.Test.YtjonoedomgacaaaGreatDoorAll11
import Derived.Deep.Cut
set_option linter.unusedVariables false
set_option linter.unusedSimpArgs false
set_option maxRecDepth 100000
set_option maxHeartbeats 32000000
namespace Go.Proofs.YtjonoedomgacaaaGreatDoor.Num
open Go.RowKit
def tks (no : Int) (ts : List Wd) : List Tk4 := ts.map fun t => ((t.1 : Int), st9 t.2.1, no, (t.2.2 : Int))
theorem rowK_tks (no : Int) : ∀ ts : List Wd, rowK (tks no ts) = rowT no ts
 | [] => rfl
 | t :: ts => by
  show rowK (((t.1 : Int), st9 t.2.1, no, (t.2.2 : Int)) :: tks no ts) = _
  rw [rowK, rowK_tks no ts, rowT]
theorem rdK_of {w : World} {A : Option Addr} {n c : Nat} {no : Int} {ts : List Wd} (h : RdT w A n c no ts) : RdK w w.heap.size A n c (tks no ts) := by
 obtain ⟨h1, h2, h3, h4⟩ := h
 refine ⟨by rw [h1]; unfold tks; rw [List.length_map], h2, h3, ?_⟩
 rcases h4 with rfl | ⟨b, o, h4, h5, h6⟩
 ·exact .inl rfl
 ·exact .inr ⟨b, o, h4, h5, by rw [rowK_tks]; exact h6⟩
def quv (i : Int) (s : Nat) (j : Int) (t : Nat) : Int × Nat × Nat := if j = 0 then (0, 0, 4) else (quoI i s j t, quoK i s j t, 0)
def RetQ (w : World) (r : Int × Nat × Nat) (e : Ending) (w' : World) : Prop :=
 ∃ (A : Option Addr) (n c : Nat), e = .returned (.tuple #[.agg #[.bool (ngB r.1), .slice A n c, .int .i64 (r.2.1 : Int)], .int .i64 (r.2.2 : Int)]) ∧ Num w' w'.heap.size A n c r.1.natAbs ∧ Below w.heap.size w w'
def StP (w : World) (g : Nat) (A : Option Addr) (n c : Nat) (a d : Nat) : Prop := w.heap[g]? = some (.cells #[.slice A n c, .int .i64 (a : Int), .int .i64 (d : Int)] 115 (0, 0))
section
variable {w w' : World} {g n c a d : Nat} {A : Option Addr}
theorem StP.lt (h : StP w g A n c a d) : g < w.heap.size := by
 rcases Nat.lt_or_ge g w.heap.size with h1 | h1
 ·exact h1
 ·unfold StP at h; rw [Array.getElem?_eq_none h1] at h; cases h
theorem StP.bx (h : StP w g A n c a d) : Box w g (.slice A n c) (.int .i64 (a : Int)) (.int .i64 (d : Int)) := by
 have hc := fun j => cell_of_row w g j _ _ _ h
 have hf : ∀ j, w.frozen? ⟨g, j, none⟩ = false := fun j => by
  have h2 : w.heap[g]? = some (.cells #[.slice A n c, .int .i64 (a : Int), .int .i64 (d : Int)] 115 (0, 0)) := h
  simp [World.frozen?, h2]
 exact ⟨hc 0, hc 1, hc 2, hf 0, hf 1, hf 2, h.lt⟩
theorem StP.set1 (h : StP w g A n c a d) (x : Nat) : StP (w.setCell ⟨g, 1, none⟩ (.int .i64 (x : Int))) g A n c x d := heap_setCell_same w g 1 _ _ _ h
theorem StP.set2 (h : StP w g A n c a d) (x : Nat) : StP (w.setCell ⟨g, 2, none⟩ (.int .i64 (x : Int))) g A n c a x := heap_setCell_same w g 2 _ _ _ h
theorem StP.on (h : StP w g A n c a d) (hb : Below w.heap.size w w') : StP w' g A n c a d := (hb.block g h.lt).trans h
theorem StP.noLimb (h : StP w g A n c a d) {j : Nat} {x : Nat} (hx : w.cell? ⟨g, j, none⟩ = some (.int .u32 (x : Int))) : False := by
 rw [cell_of_row w g j _ _ _ h] at hx
 rcases j with _ | _ | _ | j
 ·cases hx
 ·cases hx
 ·cases hx
 ·simp at hx
theorem Lim.kpP {B m k : Nat} {A' : Option Addr} {xs : List Nat} (h : Lim w B A' m k xs) (hs : StP w g A n c a d) (hB : B ≤ w.heap.size) (hk : Kp g none w w') : Lim w' B A' m k xs := by
 refine ⟨h.len, h.cap, h.room, h.fit, ?_, h.addr⟩
 rcases h.row with h' | ⟨b, o, rfl, hb, hc⟩
 ·exact .inl h'
 ·refine .inr ⟨b, o, rfl, hb, fun j u hu => ?_⟩
  have hj := hc j u hu
  by_cases hbg : b = g
  ·exfalso
   have := List.mem_of_getElem? hu
   unfold vals at this
   obtain ⟨x, _, rfl⟩ := List.mem_map.1 this
   subst hbg
   exact hs.noLimb hj
  ·exact (World.cell?_of_block (hk.block b (by omega) hbg (by simp))).trans hj
theorem MaxLen.kpP (h : MaxLen w) (hs : StP w g A n c a d) (hk : Kp g none w w') : MaxLen w' := by
 obtain ⟨m, hm⟩ := h
 have hlt : 1 < w.heap.size := World.block_lt_of_cell? w _ hm
 have hne : 1 ≠ g := by
  rintro rfl
  have h0 := hs.bx.c0
  rw [hm] at h0
  cases h0
 exact ⟨m, (World.cell?_of_block (hk.block _ hlt hne (by simp))).trans hm⟩
end
structure Sgn (w : World) (q n c : Nat) (S : List ByteArray) : Prop where
 len : n = S.length
 cap : n ≤ c
 room : c ≤ maxLen
 lt : q < w.heap.size
 row : ∀ (j : Nat) (s : ByteArray), S[j]? = some s → w.cell? ⟨q, j, none⟩ = some (.string s)
section
variable {w w' : World} {q n c g m k a d : Nat} {A : Option Addr} {S : List ByteArray}
theorem Sgn.on (h : Sgn w q n c S) (hb : Below w.heap.size w w') : Sgn w' q n c S :=
 ⟨h.len, h.cap, h.room, Nat.lt_of_lt_of_le h.lt hb.size, fun j s hs => (hb.cell (p := ⟨q, j, none⟩) h.lt).trans (h.row j s hs)⟩
theorem Sgn.kp (h : Sgn w q n c S) (hk : Kp g none w w') (hg : q ≠ g) : Sgn w' q n c S :=
 ⟨h.len, h.cap, h.room, Nat.lt_of_lt_of_le h.lt hk.size, fun j s hs => (World.cell?_of_block (hk.block q h.lt hg (by simp))).trans (h.row j s hs)⟩
end
abbrev TBx (w : World) (g : Nat) (t : Tk4) : Prop := Bx4 w g (.int .i64 t.1) (.string t.2.1) (.int .i64 t.2.2.1) (.int .i64 t.2.2.2)
structure SY (w0 w : World) (g B : Nat) (A : Option Addr) (n c : Nat) (L : List Tk4) (a d : Nat) (l : List (Option Addr × Nat × Nat × Nat)) (bs : List (Nat × Value × Value × Value)) (ts : List (Nat × Tk4)) : Prop where
 kp : Kp g none w0 w
 st : StP w g A n c a d
 rd : RdK w B A n c L
 mx : MaxLen w
 pl : B ≤ g ∧ g < w0.heap.size
 num : ∀ q ∈ l, Num w w.heap.size q.1 q.2.1 q.2.2.1 q.2.2.2
 box : ∀ q ∈ bs, Box w q.1 q.2.1 q.2.2.1 q.2.2.2 ∧ w0.heap.size ≤ q.1
 tbx : ∀ q ∈ ts, TBx w q.1 q.2 ∧ w0.heap.size ≤ q.1
section
variable {w0 w w' : World} {g B n c a d a' d' : Nat} {A : Option Addr} {L : List Tk4} {l : List (Option Addr × Nat × Nat × Nat)} {bs : List (Nat × Value × Value × Value)} {ts : List (Nat × Tk4)}
theorem SY.start (hs : StP w g A n c a d) (hr : RdK w B A n c L) (hm : MaxLen w) (hp : B ≤ g) : SY w w g B A n c L a d [] [] [] :=
 ⟨Kp.refl _ _ _, hs, hr, hm, ⟨hp, hs.lt⟩, (fun q hq => by cases hq), (fun q hq => by cases hq), (fun q hq => by cases hq)⟩
theorem SY.step (h : SY w0 w g B A n c L a d l bs ts) (hb : Below w.heap.size w w') : SY w0 w' g B A n c L a d l bs ts :=
 ⟨kp_trans h.kp (kp_of hb (Nat.le_refl _)), h.st.on hb, h.rd.on (by have := h.pl; have := h.st.lt; omega) hb, h.mx.on hb, h.pl, fun q hq => (h.num q hq).on hb, fun q hq => ⟨(h.box q hq).1.on hb, (h.box q hq).2⟩, fun q hq => ⟨(h.tbx q hq).1.on hb, (h.tbx q hq).2⟩⟩
theorem SY.call (h : SY w0 w g B A n c L a d l bs ts) (hk : Kp g none w w') (hs : StP w' g A n c a' d') : SY w0 w' g B A n c L a' d' l bs ts :=
 ⟨kp_trans h.kp hk, hs, h.rd.kp h.pl.1 (by have := h.pl; have := h.st.lt; omega) hk, h.mx.kpP h.st hk, h.pl, fun q hq => (Lim.kpP (h.num q hq) h.st (Nat.le_refl _) hk).more hk.size, fun q hq => ⟨(h.box q hq).1.kp hk (by have := h.pl; have := (h.box q hq).2; omega), (h.box q hq).2⟩, fun q hq => ⟨(h.tbx q hq).1.kp hk (by have := h.pl; have := (h.tbx q hq).2; omega) (by simp), (h.tbx q hq).2⟩⟩
theorem SY.set1 (h : SY w0 w g B A n c L a d l bs ts) (x : Nat) : SY w0 (w.setCell ⟨g, 1, none⟩ (.int .i64 (x : Int))) g B A n c L x d l bs ts := h.call (kp_set _ _ _ _) (h.st.set1 x)
theorem SY.set2 (h : SY w0 w g B A n c L a d l bs ts) (x : Nat) : SY w0 (w.setCell ⟨g, 2, none⟩ (.int .i64 (x : Int))) g B A n c L a x l bs ts := h.call (kp_set _ _ _ _) (h.st.set2 x)
theorem SY.push (h : SY w0 w g B A n c L a d l bs ts) {A1 : Option Addr} {n1 c1 x : Nat} (hn : Num w w.heap.size A1 n1 c1 x) : SY w0 w g B A n c L a d ((A1, n1, c1, x) :: l) bs ts :=
 ⟨h.kp, h.st, h.rd, h.mx, h.pl, fun q hq => by
  rcases List.mem_cons.1 hq with rfl | hq
  ·exact hn
  ·exact h.num q hq, h.box, h.tbx⟩
theorem SY.alloc (h : SY w0 w g B A n c L a d l bs ts) (o : Obj) : SY w0 (w.alloc o) g B A n c L a d l bs ts := h.step ((Below.refl _ _).alloc (Nat.le_refl _) o)
theorem SY.lay {x0 x1 x2 : Value} {t : TypeId} {g1 : Nat} (h : SY w0 w g B A n c L a d l bs ts) (hg : g1 = w.heap.size) : SY w0 (w.alloc (.cells #[x0, x1, x2] t)) g B A n c L a d l ((g1, x0, x1, x2) :: bs) ts := by
 have h2 := h.alloc (.cells #[x0, x1, x2] t)
 refine ⟨h2.kp, h2.st, h2.rd, h2.mx, h2.pl, h2.num, fun q hq => ?_, h2.tbx⟩
 rcases List.mem_cons.1 hq with rfl | hq
 ·exact ⟨Box.newAt w x0 x1 x2 t hg, by have := h.kp.size; show _ ≤ g1; omega⟩
 ·exact h2.box q hq
theorem SY.word {t : TypeId} {g1 : Nat} (h : SY w0 w g B A n c L a d l bs ts) (k : Int) (T : ByteArray) (p q : Int) (hg : g1 = w.heap.size) : SY w0 (w.alloc (.cells #[.int .i64 k, .string T, .int .i64 p, .int .i64 q] t)) g B A n c L a d l bs ((g1, k, T, p, q) :: ts) := by
 have h2 := h.alloc (.cells #[.int .i64 k, .string T, .int .i64 p, .int .i64 q] t)
 refine ⟨h2.kp, h2.st, h2.rd, h2.mx, h2.pl, h2.num, h2.box, fun r hr => ?_⟩
 rcases List.mem_cons.1 hr with rfl | hr
 ·exact ⟨Bx4.newAt w _ _ _ _ t hg, by have := h.kp.size; show _ ≤ g1; omega⟩
 ·exact h2.tbx r hr
theorem SY.got {A1 : Option Addr} {n1 c1 x : Nat} (h : Hid (SY w0 w g B A n c L a d l bs ts)) (hm : (A1, n1, c1, x) ∈ l) : Num w w.heap.size A1 n1 c1 x := h.out.num _ hm
theorem SY.at_ {x0 x1 x2 : Value} {g1 : Nat} (h : Hid (SY w0 w g B A n c L a d l bs ts)) (hm : (g1, x0, x1, x2) ∈ bs) : Box w g1 x0 x1 x2 := (h.out.box _ hm).1
theorem SY.wat {k p q : Int} {T : ByteArray} {g1 : Nat} (h : Hid (SY w0 w g B A n c L a d l bs ts)) (hm : (g1, k, T, p, q) ∈ ts) : Bx4 w g1 (.int .i64 k) (.string T) (.int .i64 p) (.int .i64 q) := (h.out.tbx _ hm).1
theorem SY.facts (h : Hid (SY w0 w g B A n c L a d l bs ts)) : Box w g (.slice A n c) (.int .i64 (a : Int)) (.int .i64 (d : Int)) := h.out.st.bx
theorem SY.put {g1 : Nat} {b : Bool} {A1 : Option Addr} {n1 c1 : Nat} {k1 : Int} (h : SY w0 w g B A n c L a d l bs ts) (hm : (g1, .bool b, .slice A1 n1 c1, .int .i64 k1) ∈ bs) (bs' : List (Nat × Value × Value × Value)) (hs : ∀ q ∈ bs', q ∈ bs ∧ g1 ≠ q.1) (y0 y1 y2 : Value) :
  SY w0 (put3 w g1 y0 y1 y2) g B A n c L a d l ((g1, y0, y1, y2) :: bs') ts := by
 have X := h.box _ hm
 have hg : g ≠ g1 := by have := h.pl; have := X.2; dsimp only at this; omega
 have hblk : ∀ k, k ≠ g1 → (put3 w g1 y0 y1 y2).heap[k]? = w.heap[k]? := fun k hk => by
  unfold put3
  rw [heap_setCell_other _ ⟨g1, 2, none⟩ k _ hk, heap_setCell_other _ ⟨g1, 1, none⟩ k _ hk, heap_setCell_other _ ⟨g1, 0, none⟩ k _ hk]
 have hsz : (put3 w g1 y0 y1 y2).heap.size = w.heap.size := by simp
 have hmx : MaxLen (put3 w g1 y0 y1 y2) := by
  obtain ⟨m, hmx⟩ := h.mx
  refine ⟨m, (World.cell?_of_block (hblk _ ?_)).trans hmx⟩
  rintro rfl
  have h0 := X.1.c0
  rw [hmx] at h0; cases h0
 refine ⟨⟨h.kp.os, h.kp.tape, h.kp.output, by rw [hsz]; exact h.kp.size, fun k hk hc hr => ?_⟩, (hblk g hg).trans h.st, ⟨h.rd.len, h.rd.cap, h.rd.room, h.rd.row.keep fun p hp => World.cell?_of_block (hblk p.block (by have := h.pl; have := X.2; dsimp only at this; omega))⟩, hmx, h.pl, fun q hq => ?_, fun q hq => ?_, fun q hq => ?_⟩
 ·rw [hblk k (by have := X.2; dsimp only at this; omega)]; exact h.kp.block k hk hc hr
 ·have := (h.num q hq).put3 X.1 (noLimb_bool _) (noLimb_slice _ _ _) (noLimb_int _) y0 y1 y2
  rw [hsz]; exact this
 ·rcases List.mem_cons.1 hq with rfl | hq
  ·exact ⟨X.1.put y0 y1 y2, X.2⟩
  ·exact ⟨(h.box q (hs q hq).1).1.apart y0 y1 y2 (hs q hq).2, (h.box q (hs q hq).1).2⟩
 ·have T := h.tbx q hq
  have hne : q.1 ≠ g1 := fun e => by
   have h0 := X.1.c0
   have h1 := T.1.c0
   rw [e] at h1
   dsimp only at h0
   rw [h0] at h1; cases h1
  obtain ⟨c0, c1, c2, c3, f0, f1, f2, f3, lt⟩ := T.1
  have hb := hblk q.1 hne
  have hcell : ∀ j, (put3 w g1 y0 y1 y2).cell? ⟨q.1, j, none⟩ = w.cell? ⟨q.1, j, none⟩ := fun j => World.cell?_of_block hb
  have hfr : ∀ j, (put3 w g1 y0 y1 y2).frozen? ⟨q.1, j, none⟩ = w.frozen? ⟨q.1, j, none⟩ := fun j => World.frozen?_of_block hb
  exact ⟨⟨(hcell 0).trans c0, (hcell 1).trans c1, (hcell 2).trans c2, (hcell 3).trans c3, (hfr 0).trans f0, (hfr 1).trans f1, (hfr 2).trans f2, (hfr 3).trans f3, by rw [hsz]; exact lt⟩, T.2⟩
theorem SY.sub {l' : List (Option Addr × Nat × Nat × Nat)} {bs' : List (Nat × Value × Value × Value)} {ts' : List (Nat × Tk4)} (h : SY w0 w g B A n c L a d l bs ts) (hl : ∀ q ∈ l', q ∈ l) (hs : ∀ q ∈ bs', q ∈ bs) (ht : ∀ q ∈ ts', q ∈ ts) : SY w0 w g B A n c L a d l' bs' ts' :=
 ⟨h.kp, h.st, h.rd, h.mx, h.pl, fun q hq => h.num q (hl q hq), fun q hq => h.box q (hs q hq), fun q hq => h.tbx q (ht q hq)⟩
end
theorem tok_put {w W : World} {x0 x1 x2 x3 : Value} (h : Below w.heap.size w W) (X : Bx4 W w.heap.size x0 x1 x2 x3) (y0 y1 y2 y3 : Value) :
  Rbx w ((((W.setCell ⟨w.heap.size, 0, none⟩ y0).setCell ⟨w.heap.size, 1, none⟩ y1).setCell ⟨w.heap.size, 2, none⟩ y2).setCell ⟨w.heap.size, 3, none⟩ y3) y0 y1 y2 y3 :=
 ⟨(((h.setCell (Nat.le_refl _) y0).setCell (Nat.le_refl _) y1).setCell (Nat.le_refl _) y2).setCell (Nat.le_refl _) y3, (((X.set0 y0).set1 y1).set2 y2).set3 y3⟩
theorem pnext_end {w : World} {g n c i d : Nat} {A : Option Addr} (hs : StP w g A n c i d) (hi : i = n) : Calls Tryz.prog 96 #[.pointer (some ⟨g, 0, none⟩)] w (Ret9 w (.tuple #[.agg #[.int .i64 0, .string ⟨#[]⟩, .int .i64 0, .int .i64 0], .bool false])) := by
 have X : Hid (Bx4 (w.alloc (.cells #[.int .i64 0, .string ⟨#[]⟩, .int .i64 0, .int .i64 0] 54)) w.heap.size (.int .i64 0) (.string ⟨#[]⟩) (.int .i64 0) (.int .i64 0)) := Bx4.newAt _ _ _ _ _ _ rfl
 have hb : Below w.heap.size w (w.alloc (.cells #[.int .i64 0, .string ⟨#[]⟩, .int .i64 0, .int .i64 0] 54)) := (Below.refl _ _).alloc (Nat.le_refl _) _
 have E := Lib.hid hb
 have HS := Lib.hid (hs.on hb)
 have hg := hs.lt
 have d1 : ((i : Int) == (n : Int)) = true := by rw [beq_iff_eq]; omega
 clear hs hb
 go_enter Tryz.func96, Tryz.ntmps96
 go_wp2_with fail
 generalize hW : World.alloc w _ = W1 at E HS X ⊢
 clear hW
 obtain ⟨p0, p1, p2, pf0, pf1, pf2, plt⟩ := HS.out.bx
 go_quiet (fail)
 have hb := below_drewN (Below.refl W1.heap.size W1) nq
 replace X := Lib.hid (X.out.on hb)
 replace E := Lib.hid (E.out.trans (hb.mono E.out.size))
 replace HS := Lib.hid (HS.out.on hb)
 clear hb p0 p1 p2 pf0 pf1 pf2 plt
 generalize hW : World.drewN W1 _ = W2 at E HS X ⊢
 clear hW
 have Y : Hid (Bx4 (W2.alloc (.cells #[.int .i64 0, .string ⟨#[]⟩, .int .i64 0, .int .i64 0] 54)) W2.heap.size (.int .i64 0) (.string ⟨#[]⟩) (.int .i64 0) (.int .i64 0)) := Bx4.newAt _ _ _ _ _ _ rfl
 replace X := Lib.hid (X.out.on ((Below.refl _ _).alloc (Nat.le_refl _) (.cells #[.int .i64 0, .string ⟨#[]⟩, .int .i64 0, .int .i64 0] 54)))
 obtain ⟨q0, q1, q2, q3, qf0, qf1, qf2, qf3, qlt⟩ := X.out
 go_wp2_with fail
 have R := tok_put (E.out.alloc E.out.size (.cells #[.int .i64 0, .string ⟨#[]⟩, .int .i64 0, .int .i64 0] 54)) X.out (.int .i64 0) (.string ⟨#[]⟩) (.int .i64 0) (.int .i64 0)
 clear q0 q1 q2 q3 qf0 qf1 qf2 qf3 qlt
 obtain ⟨q0, q1, q2, q3, _, _, _, _, _⟩ := R.2
 exact bodyPost_ret (v := .tuple #[.agg #[.int .i64 0, .string ⟨#[]⟩, .int .i64 0, .int .i64 0], .bool false]) (by simp [results, Tryz.results96, go_sem, q0, q1, q2, q3]) rfl ⟨rfl, R.1⟩
theorem some_map_str {S : List ByteArray} {j : Nat} {s : ByteArray} (h : S[j]? = some s) : (S.map Value.string)[j]? = some (.string s) := by rw [List.getElem?_map, h]; rfl
theorem sgn_of {v : World} {q n : Nat} {S : List ByteArray} {vs : Array Value} {t : TypeId} (hq : v.heap[q]? = some (.cells vs t (0, 0))) (hv : vs.toList = S.map Value.string) (hn : n = S.length) (hm : n ≤ 1000) : Sgn v q n n S := by
 refine ⟨hn, Nat.le_refl _, by unfold maxLen; omega, ?_, fun j s hs => ?_⟩
 ·rcases Nat.lt_or_ge q v.heap.size with h1 | h1
  ·exact h1
  ·rw [Array.getElem?_eq_none h1] at hq; cases hq
 ·rw [cell_of_row v q j _ _ _ hq]
  have := some_map_str hs
  rw [← hv, Array.getElem?_toList] at this
  exact this
theorem sgn_one (v : World) (s1 : ByteArray) (t : TypeId) {q : Nat} (hq : q = v.heap.size) : Sgn (v.alloc (.cells #[.string s1] t)) q 1 1 [s1] := by subst hq; exact sgn_of (heap_alloc_new v _) rfl rfl (by omega)
theorem sgn_two (v : World) (s1 s2 : ByteArray) (t : TypeId) {q : Nat} (hq : q = v.heap.size) : Sgn (v.alloc (.cells #[.string s1, .string s2] t)) q 2 2 [s1, s2] := by subst hq; exact sgn_of (heap_alloc_new v _) rfl rfl (by omega)
theorem sgn_three (v : World) (s1 s2 s3 : ByteArray) (t : TypeId) {q : Nat} (hq : q = v.heap.size) : Sgn (v.alloc (.cells #[.string s1, .string s2, .string s3] t)) q 3 3 [s1, s2, s3] := by subst hq; exact sgn_of (heap_alloc_new v _) rfl rfl (by omega)
theorem pnext_some {w : World} {g B n c i d : Nat} {A : Option Addr} {L : List Tk4} (hs : StP w g A n c i d) (hr : RdK w B A n c L) (hB : B ≤ w.heap.size) (hn : n ≤ 1000) {t : Tk4} (ht : L[i]? = some t) : Calls Tryz.prog 96 #[.pointer (some ⟨g, 0, none⟩)] w (Ret9 w (.tuple #[tk4 t, .bool true])) := by
 obtain ⟨q, u0, rfl, h1, h2, h3, h4, -⟩ := hr.at_ ht
 obtain ⟨k, T, l, m⟩ := t
 have X : Hid (Bx4 (w.alloc (.cells #[.int .i64 0, .string ⟨#[]⟩, .int .i64 0, .int .i64 0] 54)) w.heap.size (.int .i64 0) (.string ⟨#[]⟩) (.int .i64 0) (.int .i64 0)) := Bx4.newAt _ _ _ _ _ _ rfl
 have hb : Below w.heap.size w (w.alloc (.cells #[.int .i64 0, .string ⟨#[]⟩, .int .i64 0, .int .i64 0] 54)) := (Below.refl _ _).alloc (Nat.le_refl _) _
 have E := Lib.hid hb
 have HS := Lib.hid (hs.on hb)
 have HR := Lib.hid (hr.on hB hb)
 have hg := hs.lt
 have d1 : ((i : Int) == (n : Int)) = false := by rw [beq_eq_false_iff_ne]; omega
 have d2 : decide (n ≤ i) = false := decide_eq_false (by omega)
 have d3 : decide (i < n) = true := decide_eq_true (by omega)
 have d4 : (0 : Int) ≤ (i : Int) := by omega
 have d5 : (i : Int) < (n : Int) := by omega
 clear hs hr hb
 go_enter Tryz.func96, Tryz.ntmps96
 go_wp2_with fail
 generalize hW : World.alloc w _ = W1 at E HS HR X ⊢
 clear hW
 obtain ⟨p0, p1, p2, pf0, pf1, pf2, plt⟩ := HS.out.bx
 go_quiet (fail)
 have hb := below_drewN (Below.refl W1.heap.size W1) nq
 replace X := Lib.hid (X.out.on hb)
 replace HR := Lib.hid (HR.out.on (by have := E.out.size; omega) hb)
 replace E := Lib.hid (E.out.trans (hb.mono E.out.size))
 replace HS := Lib.hid (HS.out.on hb)
 clear hb p0 p1 p2 pf0 pf1 pf2 plt
 generalize hW : World.drewN W1 _ = W2 at E HS HR X ⊢
 clear hW
 obtain ⟨p0, p1, p2, pf0, pf1, pf2, plt⟩ := HS.out.bx
 obtain ⟨q0, q1, q2, q3, qf0, qf1, qf2, qf3, qlt⟩ := X.out
 obtain ⟨a0, a1, a2, a3⟩ := tok_cells HR.out ht
 go_wp2_with fail
 go_region
 have R := (tok_put E.out X.out (.int .i64 k) (.string T) (.int .i64 l) (.int .i64 m)).on (Below.refl _ _).drew
 clear q0 q1 q2 q3 qf0 qf1 qf2 qf3 qlt
 obtain ⟨q0, q1, q2, q3, _, _, _, _, _⟩ := R.2
 go_wp2_with fail
 exact bodyPost_ret (v := .tuple #[.agg #[.int .i64 k, .string T, .int .i64 l, .int .i64 m], .bool true]) (by simp [results, Tryz.results96, go_sem, q0, q1, q2, q3]) rfl ⟨rfl, R.1⟩
theorem ppass {w : World} {g n c i d : Nat} {A : Option Addr} (hs : StP w g A n c i d) (hi : i ≤ 1000000) (i1 : Nat) (h1 : i + 1 = i1) : Calls Tryz.prog 97 #[.pointer (some ⟨g, 0, none⟩)] w (fun e w' => e = .returned (.tuple #[]) ∧ w' = w.setCell ⟨g, 1, none⟩ (.int .i64 (i1 : Int))) := by
 obtain ⟨p0, p1, p2, pf0, pf1, pf2, plt⟩ := hs.bx
 have ei : (i : Int) + 1 = (i1 : Int) := by omega
 clear hs h1
 go_enter Tryz.func97, Tryz.ntmps97
 go_wp2_with fail
 go_end0
 exact ⟨rfl, rfl⟩
def isOne (T : ByteArray) (S : List ByteArray) : Bool := S.any fun s => decide (bs9 T = bs9 s)
theorem pindex {w : World} {q n c : Nat} {S : List ByteArray} (h : Sgn w q n c S) (T : ByteArray) :
  Calls Tryz.prog 78 #[.slice (some ⟨q, 0, none⟩) n c, .string T] w fun e w' => (∃ r : Int, e = .returned (.int .i64 r) ∧ decide (0 ≤ r) = isOne T S) ∧ w = w' := by
 have hm := h.room
 have hn := h.cap
 unfold maxLen at hm
 go_enter Tryz.func78, Tryz.ntmps78
 go_wp2
 go_loop [8] (fun i => ∃ k : Nat, k ≤ n ∧ i = .int .i64 k ∧ isOne T (S.take k) = false) (fun i => n - (intOf i).toNat)
 case atStart => exact ⟨0, Nat.zero_le _, rfl, rfl⟩
 case round =>
  obtain ⟨k, hk, rfl, hall⟩ := hrel
  have HALL := Lib.hid hall
  clear hall
  by_cases hkn : k < n
  ·obtain ⟨s, hs⟩ : ∃ s, S[k]? = some s := ⟨_, List.getElem?_eq_getElem (by have := h.len; omega)⟩
   have hc := h.row k s hs
   have H := Lib.hid h
   have HS := Lib.hid hs
   clear h hs
   cases hb : decide (bs9 T = bs9 s) with
   | true =>
    have ht : (T.toList == s.toList) = true := by rw [txt_eq]; exact hb
    have E : Hid (isOne T S = true) := by
     show _ = _
     unfold isOne
     rw [List.any_eq_true]
     exact ⟨s, List.mem_of_getElem? HS.out, hb⟩
    clear hb
    go_wp2_with fail
    go_ret
    exact ⟨⟨_, rfl, by rw [E.out]; simp⟩, rfl⟩
   | false =>
    have ht : (T.toList == s.toList) = false := by rw [txt_eq]; exact hb
    have E : Hid (isOne T (S.take (k + 1)) = false) := by
     show _ = _
     have h2 := HALL.out
     unfold isOne at h2 ⊢
     rw [List.take_add_one, List.any_append, h2, HS.out]
     show (false || (decide (bs9 T = bs9 s) || false)) = false
     rw [hb]; rfl
    clear hb
    go_wp2_with fail
    go_round
    case rel => exact ⟨k + 1, by omega, by go_num, E.out⟩
    case measure => simp [intOf]; omega
  ·obtain rfl : k = n := by omega
   have E : Hid (isOne T S = false) := by
    show _ = _
    have h2 := HALL.out
    rw [List.take_of_length_le (by rw [h.len]; exact Nat.le_refl _)] at h2
    exact h2
   clear h
   go_wp2
   go_ret
   exact ⟨⟨_, rfl, by rw [E.out]; simp⟩, rfl⟩
theorem pcontains {w : World} {q n c : Nat} {S : List ByteArray} (h : Sgn w q n c S) (T : ByteArray) {b : Bool} (hb : isOne T S = b) :
  Calls Tryz.prog 55 #[.slice (some ⟨q, 0, none⟩) n c, .string T] w fun e w' => e = .returned (.bool b) ∧ w = w' := by
 have H := Lib.hid h
 have HB := Lib.hid hb
 clear h hb
 go_enter Tryz.func55, Tryz.ntmps55
 go_wp2_with fail
 refine (pindex H.out T).mono ?_; rintro e w1 ⟨⟨r, rfl, hr⟩, rfl⟩
 have HR : Hid (decide (0 ≤ r) = b) := hr.trans HB.out
 clear hr
 go_wp2_with fail
 go_ret
 exact ⟨ret_bool HR.out, rfl⟩
def isgs (t : Tok) (S : List ByteArray) : Bool := decide (t.1 = 10) && isOne t.2 S
theorem pissign {w : World} {q n c : Nat} {S : List ByteArray} (h : Sgn w q n c S) {k : Int} {T : ByteArray} {b : Bool} (hb : isgs (k, T) S = b) (l m : Int) :
  Calls Tryz.prog 38 #[.agg #[.int .i64 k, .string T, .int .i64 l, .int .i64 m], .slice (some ⟨q, 0, none⟩) n c] w (Ret9 w (.bool b)) := by
 have HB : Hid (Below w.heap.size w (w.alloc (.cells #[.int .i64 k, .string T, .int .i64 l, .int .i64 m] 54))) := (Below.refl _ _).alloc (Nat.le_refl _) _
 have H := Lib.hid (h.on HB.out)
 by_cases hk : k = 10
 ·have d : (k == 10) = true := by rw [hk]; rfl
  have E : Hid (isOne T S = b) := by show _ = _; rw [← hb]; unfold isgs; rw [decide_eq_true hk, Bool.true_and]
  clear h hb hk
  go_enter Tryz.func38, Tryz.ntmps38
  go_wp2_with fail
  refine (pcontains H.out T E.out).mono ?_; rintro e w1 ⟨rfl, rfl⟩
  go_wp2_with fail
  go_ret
  exact ⟨rfl, HB.out⟩
 ·have d : (k == 10) = false := by rw [beq_eq_false_iff_ne]; exact hk
  have E : Hid (false = b) := by show _ = _; rw [← hb]; unfold isgs; rw [decide_eq_false hk, Bool.false_and]
  clear h hb hk
  go_enter Tryz.func38, Tryz.ntmps38
  go_wp2_with fail
  go_ret
  exact ⟨rb9 E.out, HB.out⟩
theorem isgs_two (t : Tok) {s1 s2 : ByteArray} {x y : Nat} (h1 : bs9 s1 = [x]) (h2 : bs9 s2 = [y]) : isgs t [s1, s2] = (isg t x || isg t y) := by
 unfold isgs isOne isg
 rw [List.any_cons, List.any_cons, List.any_nil, h1, h2, Bool.or_false, Bool.and_or_distrib_left]
theorem isgs_one (t : Tok) {s1 : ByteArray} {x : Nat} (h1 : bs9 s1 = [x]) : isgs t [s1] = isg t x := by
 unfold isgs isOne isg
 rw [List.any_cons, List.any_nil, h1, Bool.or_false]
theorem isgs_starts (t : Tok) (h : t.1 ≠ 4) : isgs t [⟨#[43]⟩, ⟨#[45]⟩, ⟨#[40]⟩] = sta t := by
 unfold isgs isOne sta isg
 rw [decide_eq_false h, Bool.false_or, List.any_cons, List.any_cons, List.any_cons, List.any_nil, Bool.or_false]
 show (_ && (decide (bs9 t.2 = [43]) || (decide (bs9 t.2 = [45]) || decide (bs9 t.2 = [40])))) = _
 cases decide (t.1 = 10) <;> cases decide (bs9 t.2 = [43]) <;> cases decide (bs9 t.2 = [45]) <;> cases decide (bs9 t.2 = [40]) <;> rfl
theorem pstarts {w : World} {k : Int} {T : ByteArray} {b : Bool} (hb : sta (k, T) = b) (l m : Int) :
  Calls Tryz.prog 21 #[.agg #[.int .i64 k, .string T, .int .i64 l, .int .i64 m]] w (Ret9 w (.bool b)) := by
 have HB : Hid (Below w.heap.size w (w.alloc (.cells #[.int .i64 k, .string T, .int .i64 l, .int .i64 m] 54))) := (Below.refl _ _).alloc (Nat.le_refl _) _
 have X : Hid (Bx4 (w.alloc (.cells #[.int .i64 k, .string T, .int .i64 l, .int .i64 m] 54)) w.heap.size (.int .i64 k) (.string T) (.int .i64 l) (.int .i64 m)) := Bx4.newAt _ _ _ _ _ _ rfl
 by_cases hk : k = 4
 ·have d : (k == 4) = true := by rw [hk]; rfl
  have E : Hid (true = b) := by show _ = _; rw [← hb]; unfold sta; rw [decide_eq_true hk]; rfl
  clear hb hk
  go_enter Tryz.func21, Tryz.ntmps21
  go_wp2_with fail
  go_ret
  exact ⟨rb9 E.out, HB.out⟩
 ·have d : (k == 4) = false := by rw [beq_eq_false_iff_ne]; exact hk
  have E : Hid (isgs (k, T) [⟨#[43]⟩, ⟨#[45]⟩, ⟨#[40]⟩] = b) := by show _ = _; rw [isgs_starts _ hk]; exact hb
  clear hb hk
  go_enter Tryz.func21, Tryz.ntmps21
  go_wp2_with fail
  have hb2 := HB.out.alloc HB.out.size (.cells #[.string ⟨#[43]⟩, .string ⟨#[45]⟩, .string ⟨#[40]⟩] 9)
  refine (pissign (sgn_three _ ⟨#[43]⟩ ⟨#[45]⟩ ⟨#[40]⟩ 9 (by simp)) E.out l m).mono ?_; rintro e w1 ⟨rfl, hb⟩
  replace HB := Lib.hid (hb2.trans (hb.mono hb2.size))
  clear hb hb2
  go_wp2_with fail
  go_ret
  exact ⟨rfl, HB.out⟩
theorem pquo_yes {A A' : Option Addr} {n c n' c' s t : Nat} {i j : Int} {w : World} (h : Num w w.heap.size A n c i.natAbs) (h' : Num w w.heap.size A' n' c' j.natAbs) (hn : n ≤ 1000) (hn' : n' ≤ 1000) (hs : s ≤ 4010) (ht : t ≤ 4010) (hj : j ≠ 0) (hl : (dg (quoQ i s j t).natAbs).length ≤ 1000) :
  Calls Tryz.prog 115 #[.agg #[.bool (ngB i), .slice A n c, .int .i64 (s : Int)], .agg #[.bool (ngB j), .slice A' n' c', .int .i64 (t : Int)]] w (RetDecE w (quoI i s j t) (quoK i s j t)) := by
 obtain ⟨M, hM⟩ : ∃ M, max s t = M := ⟨_, rfl⟩
 obtain ⟨S, hS⟩ : ∃ S, M + 10 = S := ⟨_, rfl⟩
 have em : max (s : Int) (t : Int) = (M : Int) := by omega
 have eS : (M : Int) + 10 = (S : Int) := by omega
 have hM4 : M ≤ 4010 := by omega
 have hmn := min_gen (P := Tryz.prog) (x := (M : Int)) (y := 9223372036854775797) (z := (M : Int)) (by omega)
 have HM := Lib.hid hM
 have HS := Lib.hid hS
 have HJ := Lib.hid hj
 have HL := Lib.hid hl
 clear hM hS hj hl
 go_enter Tryz.func115, Tryz.ntmps115
 go_wp2_with fail
 have E := Lib.hid ((((St.start w (l := [(A, n, c, i.natAbs), (A', n', c', j.natAbs)]) (by intro q hq; simp at hq; rcases hq with rfl | rfl; exact h; exact h')).alloc (.cells #[.bool (ngB i), .slice A n c, .int .i64 (s : Int)] 28)).alloc (.cells #[.bool (ngB j), .slice A' n' c', .int .i64 (t : Int)] 28)).lay (g := w.heap.size + 1 + 1) (x0 := .bool false) (x1 := .slice none 0 0) (x2 := .int .i64 0) (t := 28) (by simp))
 generalize hW : World.alloc (World.alloc (World.alloc w _) _) _ = W0 at E ⊢
 clear hW
 refine (rdiv_is (i := i) (j := j) (s := s) (t := t) (S := S) (St.got (A := A) (n := n) (c := c) E (by simp)) (St.got (A := A') (n := n') (c := c') E (by simp)) hn hn' (by omega) (by omega) (by omega) (by omega) HJ.out (z := quoQ i s j t) (by unfold quoQ; rw [HM.out, HS.out])).mono ?_; rintro e w1 ⟨A2, n2, c2, rfl, hnum2, hb2⟩
 have hn2 : n2 ≤ 1000 := by have := hnum2.len; have := HL.out; omega
 replace E := Lib.hid (St.push E.out hb2 hnum2)
 clear hnum2 hb2
 have hlt := (St.az (g := w.heap.size + 1 + 1) E (by simp)).lt
 go_wp2_with fail
 replace E := Lib.hid (St.lay (g := w1.heap.size) (x0 := .bool (ngB (quoQ i s j t))) (x1 := .slice A2 n2 c2) (x2 := .int .i64 (S : Int)) (t := 28) E.out rfl)
 refine (strip_is5 (i := quoQ i s j t) (s := S) (L := M) (v := (M : Int)) (St.got (A := A2) (n := n2) (c := c2) E (by simp)) hn2 (by omega) (by omega) (by omega) (M := quoK i s j t) (by unfold quoK; rw [HM.out, HS.out]) (x := quoI i s j t) (by unfold quoI; rw [HM.out, HS.out])).mono ?_; rintro e w2 ⟨A3, n3, c3, rfl, hnum3, hb3⟩
 replace E := Lib.hid (St.push E.out hb3 hnum3)
 clear hnum3 hb3
 obtain ⟨r0, r1, r2, rf0, rf1, rf2, rlt⟩ := St.az (g := w.heap.size + 1 + 1) E (by simp)
 go_wp2_with fail
 clear r0 r1 r2 rf0 rf1 rf2 rlt
 have EF := Lib.hid (St.sz E.out (g := (w.heap.size + 1 + 1)) (by simp) (.bool (ngB (quoI i s j t))) (.slice A3 n3 c3) (.int .i64 (quoK i s j t : Int)))
 obtain ⟨r0, r1, r2, _, _, _, _⟩ := St.ad (quoI i s j t) A3 n3 c3 (quoK i s j t) (g := w.heap.size + 1 + 1) EF (by simp)
 exact bodyPost_ret (v := .tuple #[.agg #[.bool (ngB (quoI i s j t)), .slice A3 n3 c3, .int .i64 (quoK i s j t : Int)], .int .i64 0]) (by simp [results, Tryz.results115, go_sem, r0, r1, r2]) rfl ⟨A3, n3, c3, rfl, St.got EF (by simp), EF.out.bel⟩
theorem pquo_no {A A' : Option Addr} {n c n' c' s t : Nat} {i j : Int} {w : World} (h : Num w w.heap.size A n c i.natAbs) (h' : Num w w.heap.size A' n' c' j.natAbs) (hn : n ≤ 1000) (hn' : n' ≤ 1000) (hs : s ≤ 4010) (ht : t ≤ 4010) (hj : j = 0) :
  Calls Tryz.prog 115 #[.agg #[.bool (ngB i), .slice A n c, .int .i64 (s : Int)], .agg #[.bool (ngB j), .slice A' n' c', .int .i64 (t : Int)]] w (RetVal w (.tuple #[.agg #[.bool false, .slice none 0 0, .int .i64 0], .int .i64 4])) := by
 obtain ⟨M, hM⟩ : ∃ M, max s t = M := ⟨_, rfl⟩
 obtain ⟨S, hS⟩ : ∃ S, M + 10 = S := ⟨_, rfl⟩
 have em : max (s : Int) (t : Int) = (M : Int) := by omega
 have eS : (M : Int) + 10 = (S : Int) := by omega
 have hM4 : M ≤ 4010 := by omega
 have hmn := min_gen (P := Tryz.prog) (x := (M : Int)) (y := 9223372036854775797) (z := (M : Int)) (by omega)
 have HM := Lib.hid hM
 have HS := Lib.hid hS
 have HJ := Lib.hid hj
 clear hM hS hj
 go_enter Tryz.func115, Tryz.ntmps115
 go_wp2_with fail
 have E := Lib.hid ((((St.start w (l := [(A, n, c, i.natAbs), (A', n', c', j.natAbs)]) (by intro q hq; simp at hq; rcases hq with rfl | rfl; exact h; exact h')).alloc (.cells #[.bool (ngB i), .slice A n c, .int .i64 (s : Int)] 28)).alloc (.cells #[.bool (ngB j), .slice A' n' c', .int .i64 (t : Int)] 28)).lay (g := w.heap.size + 1 + 1) (x0 := .bool false) (x1 := .slice none 0 0) (x2 := .int .i64 0) (t := 28) (by simp))
 generalize hW : World.alloc (World.alloc (World.alloc w _) _) _ = W0 at E ⊢
 clear hW
 refine (rdiv_zero (i := i) (j := j) (s := s) (t := t) (S := S) (St.got (A := A) (n := n) (c := c) E (by simp)) (St.got (A := A') (n := n') (c := c') E (by simp)) hn hn' (by omega) (by omega) (by omega) (by omega) HJ.out).mono ?_; rintro e w1 ⟨rfl, hb2⟩
 replace E := Lib.hid (St.step E.out hb2)
 clear hb2
 have hlt := (St.az (g := w.heap.size + 1 + 1) E (by simp)).lt
 obtain ⟨r0, r1, r2, rf0, rf1, rf2, rlt⟩ := St.az (g := w.heap.size + 1 + 1) E (by simp)
 go_wp2_with fail
 clear r0 r1 r2 rf0 rf1 rf2 rlt
 have EF := Lib.hid (St.sz E.out (g := (w.heap.size + 1 + 1)) (by simp) (.bool false) (.slice none 0 0) (.int .i64 0))
 replace EF := Lib.hid (EF.out.alloc (.cells #[.bool false, .slice none 0 0, .int .i64 0] 28))
 obtain ⟨r0, r1, r2, _, _, _, _⟩ := St.az (g := w.heap.size + 1 + 1) EF (by simp)
 exact bodyPost_ret (v := .tuple #[.agg #[.bool false, .slice none 0 0, .int .i64 0], .int .i64 4]) (by simp [results, Tryz.results115, go_sem, r0, r1, r2]) rfl ⟨rfl, EF.out.bel⟩
def jnd (c : Nat) (i : Int) (s : Nat) (j : Int) (t : Nat) : Int × Nat × Nat :=
 if c = 43 then (addZ i s j t, max s t, 0) else if c = 45 then (subZ i s j t, max s t, 0) else if c = 42 then (i * j, s + t, 0) else quv i s j t
theorem pquo {A A' : Option Addr} {n c n' c' s t : Nat} {i j : Int} {w : World} (h : Num w w.heap.size A n c i.natAbs) (h' : Num w w.heap.size A' n' c' j.natAbs) (hn : n ≤ 1000) (hn' : n' ≤ 1000) (hs : s ≤ 4010) (ht : t ≤ 4010) (hl : j ≠ 0 → (dg (quoQ i s j t).natAbs).length ≤ 1000) :
  Calls Tryz.prog 115 #[.agg #[.bool (ngB i), .slice A n c, .int .i64 (s : Int)], .agg #[.bool (ngB j), .slice A' n' c', .int .i64 (t : Int)]] w (RetQ w (quv i s j t)) := by
 unfold quv
 by_cases hj : j = 0
 ·rw [if_pos hj]
  exact (pquo_no h h' hn hn' hs ht hj).mono fun e w' q => ⟨none, 0, 0, q.1, num_zero _ _, q.2⟩
 ·rw [if_neg hj]
  exact (pquo_yes h h' hn hn' hs ht hj (hl hj)).mono fun e w' q => q
theorem pjoin_add {A A' : Option Addr} {n c n' c' s t : Nat} {i j : Int} {w : World} {T : ByteArray} (h : Num w w.heap.size A n c i.natAbs) (h' : Num w w.heap.size A' n' c' j.natAbs) (hn : n ≤ 1000) (hn' : n' ≤ 1000) (hs : s ≤ 4010) (ht : t ≤ 4010) (hT : bs9 T = [43]) :
  Calls Tryz.prog 98 #[.agg #[.bool (ngB i), .slice A n c, .int .i64 (s : Int)], .string T, .agg #[.bool (ngB j), .slice A' n' c', .int .i64 (t : Int)]] w (RetQ w (jnd 43 i s j t)) := by
 show Calls _ _ _ _ (RetQ w ((addZ i s j t, max s t, 0)))
 have l43 : (T.toList == [43]) = true := lit_yes (l := [43]) hT
 obtain ⟨x, hx⟩ : ∃ x, addZ i s j t = x := ⟨_, rfl⟩
 obtain ⟨M, hM⟩ : ∃ M, max s t = M := ⟨_, rfl⟩
 have HX := Lib.hid hx
 have HM := Lib.hid hM
 rw [hx, hM]
 clear hx hM
 clear hT
 go_enter Tryz.func98, Tryz.ntmps98
 go_wp2_with fail
 have E := Lib.hid ((((St.start w (l := [(A, n, c, i.natAbs), (A', n', c', j.natAbs)]) (by intro q hq; simp at hq; rcases hq with rfl | rfl; exact h; exact h')).alloc (.cells #[.bool (ngB i), .slice A n c, .int .i64 (s : Int)] 28)).alloc (.cells #[.bool (ngB j), .slice A' n' c', .int .i64 (t : Int)] 28)).lay (g := w.heap.size + 1 + 1) (x0 := .bool false) (x1 := .slice none 0 0) (x2 := .int .i64 0) (t := 28) (by simp))
 generalize hW : World.alloc (World.alloc (World.alloc w _) _) _ = W0 at E ⊢
 clear hW
 refine (add_is5 (i := i) (j := j) (s := s) (t := t) (St.got (A := A) (n := n) (c := c) E (by simp)) (St.got (A := A') (n := n') (c := c') E (by simp)) (by omega) (by omega) (by omega) (by omega) HM.out HX.out).mono ?_; rintro e w1 ⟨A2, n2, c2, rfl, hnum2, hb2⟩
 replace E := Lib.hid (St.push E.out hb2 hnum2)
 clear hnum2 hb2
 obtain ⟨r0, r1, r2, rf0, rf1, rf2, rlt⟩ := St.az (g := w.heap.size + 1 + 1) E (by simp)
 go_wp2_with fail
 clear r0 r1 r2 rf0 rf1 rf2 rlt
 have EF := Lib.hid (St.sz E.out (g := (w.heap.size + 1 + 1)) (by simp) (.bool (ngB (x))) (.slice A2 n2 c2) (.int .i64 (M : Int)))
 obtain ⟨r0, r1, r2, _, _, _, _⟩ := St.ad (x) A2 n2 c2 M (g := w.heap.size + 1 + 1) EF (by simp)
 exact bodyPost_ret (v := .tuple #[.agg #[.bool (ngB (x)), .slice A2 n2 c2, .int .i64 (M : Int)], .int .i64 0]) (by simp [results, Tryz.results98, go_sem, r0, r1, r2]) rfl ⟨A2, n2, c2, rfl, St.got EF (by simp), EF.out.bel⟩
theorem pjoin_sub {A A' : Option Addr} {n c n' c' s t : Nat} {i j : Int} {w : World} {T : ByteArray} (h : Num w w.heap.size A n c i.natAbs) (h' : Num w w.heap.size A' n' c' j.natAbs) (hn : n ≤ 1000) (hn' : n' ≤ 1000) (hs : s ≤ 4010) (ht : t ≤ 4010) (hT : bs9 T = [45]) :
  Calls Tryz.prog 98 #[.agg #[.bool (ngB i), .slice A n c, .int .i64 (s : Int)], .string T, .agg #[.bool (ngB j), .slice A' n' c', .int .i64 (t : Int)]] w (RetQ w (jnd 45 i s j t)) := by
 show Calls _ _ _ _ (RetQ w ((subZ i s j t, max s t, 0)))
 have l43 : (T.toList == [43]) = false := lit_not (l := [43]) (by rw [hT]; decide)
 have l45 : (T.toList == [45]) = true := lit_yes (l := [45]) hT
 obtain ⟨x, hx⟩ : ∃ x, subZ i s j t = x := ⟨_, rfl⟩
 obtain ⟨M, hM⟩ : ∃ M, max s t = M := ⟨_, rfl⟩
 have HX := Lib.hid hx
 have HM := Lib.hid hM
 rw [hx, hM]
 clear hx hM
 clear hT
 go_enter Tryz.func98, Tryz.ntmps98
 go_wp2_with fail
 have E := Lib.hid ((((St.start w (l := [(A, n, c, i.natAbs), (A', n', c', j.natAbs)]) (by intro q hq; simp at hq; rcases hq with rfl | rfl; exact h; exact h')).alloc (.cells #[.bool (ngB i), .slice A n c, .int .i64 (s : Int)] 28)).alloc (.cells #[.bool (ngB j), .slice A' n' c', .int .i64 (t : Int)] 28)).lay (g := w.heap.size + 1 + 1) (x0 := .bool false) (x1 := .slice none 0 0) (x2 := .int .i64 0) (t := 28) (by simp))
 generalize hW : World.alloc (World.alloc (World.alloc w _) _) _ = W0 at E ⊢
 clear hW
 refine (sub_is5 (i := i) (j := j) (s := s) (t := t) (St.got (A := A) (n := n) (c := c) E (by simp)) (St.got (A := A') (n := n') (c := c') E (by simp)) (by omega) (by omega) (by omega) (by omega) HM.out HX.out).mono ?_; rintro e w1 ⟨A2, n2, c2, rfl, hnum2, hb2⟩
 replace E := Lib.hid (St.push E.out hb2 hnum2)
 clear hnum2 hb2
 obtain ⟨r0, r1, r2, rf0, rf1, rf2, rlt⟩ := St.az (g := w.heap.size + 1 + 1) E (by simp)
 go_wp2_with fail
 clear r0 r1 r2 rf0 rf1 rf2 rlt
 have EF := Lib.hid (St.sz E.out (g := (w.heap.size + 1 + 1)) (by simp) (.bool (ngB (x))) (.slice A2 n2 c2) (.int .i64 (M : Int)))
 obtain ⟨r0, r1, r2, _, _, _, _⟩ := St.ad (x) A2 n2 c2 M (g := w.heap.size + 1 + 1) EF (by simp)
 exact bodyPost_ret (v := .tuple #[.agg #[.bool (ngB (x)), .slice A2 n2 c2, .int .i64 (M : Int)], .int .i64 0]) (by simp [results, Tryz.results98, go_sem, r0, r1, r2]) rfl ⟨A2, n2, c2, rfl, St.got EF (by simp), EF.out.bel⟩
theorem pjoin_mul {A A' : Option Addr} {n c n' c' s t : Nat} {i j : Int} {w : World} {T : ByteArray} (h : Num w w.heap.size A n c i.natAbs) (h' : Num w w.heap.size A' n' c' j.natAbs) (hn : n ≤ 1000) (hn' : n' ≤ 1000) (hs : s ≤ 4010) (ht : t ≤ 4010) (hT : bs9 T = [42]) :
  Calls Tryz.prog 98 #[.agg #[.bool (ngB i), .slice A n c, .int .i64 (s : Int)], .string T, .agg #[.bool (ngB j), .slice A' n' c', .int .i64 (t : Int)]] w (RetQ w (jnd 42 i s j t)) := by
 show Calls _ _ _ _ (RetQ w ((i * j, s + t, 0)))
 have l43 : (T.toList == [43]) = false := lit_not (l := [43]) (by rw [hT]; decide)
 have l45 : (T.toList == [45]) = false := lit_not (l := [45]) (by rw [hT]; decide)
 have l42 : (T.toList == [42]) = true := lit_yes (l := [42]) hT
 obtain ⟨x, hx⟩ : ∃ x, i * j = x := ⟨_, rfl⟩
 obtain ⟨M, hM⟩ : ∃ M, s + t = M := ⟨_, rfl⟩
 have HX := Lib.hid hx
 have HM := Lib.hid hM
 rw [hx, hM]
 clear hx hM
 clear hT
 go_enter Tryz.func98, Tryz.ntmps98
 go_wp2_with fail
 have E := Lib.hid ((((St.start w (l := [(A, n, c, i.natAbs), (A', n', c', j.natAbs)]) (by intro q hq; simp at hq; rcases hq with rfl | rfl; exact h; exact h')).alloc (.cells #[.bool (ngB i), .slice A n c, .int .i64 (s : Int)] 28)).alloc (.cells #[.bool (ngB j), .slice A' n' c', .int .i64 (t : Int)] 28)).lay (g := w.heap.size + 1 + 1) (x0 := .bool false) (x1 := .slice none 0 0) (x2 := .int .i64 0) (t := 28) (by simp))
 generalize hW : World.alloc (World.alloc (World.alloc w _) _) _ = W0 at E ⊢
 clear hW
 refine (mul_is5 (i := i) (j := j) (s := s) (t := t) (St.got (A := A) (n := n) (c := c) E (by simp)) (St.got (A := A') (n := n') (c := c') E (by simp)) (by omega) (by omega) (by omega) (by omega) HM.out HX.out).mono ?_; rintro e w1 ⟨A2, n2, c2, rfl, hnum2, hb2⟩
 replace E := Lib.hid (St.push E.out hb2 hnum2)
 clear hnum2 hb2
 obtain ⟨r0, r1, r2, rf0, rf1, rf2, rlt⟩ := St.az (g := w.heap.size + 1 + 1) E (by simp)
 go_wp2_with fail
 clear r0 r1 r2 rf0 rf1 rf2 rlt
 have EF := Lib.hid (St.sz E.out (g := (w.heap.size + 1 + 1)) (by simp) (.bool (ngB (x))) (.slice A2 n2 c2) (.int .i64 (M : Int)))
 obtain ⟨r0, r1, r2, _, _, _, _⟩ := St.ad (x) A2 n2 c2 M (g := w.heap.size + 1 + 1) EF (by simp)
 exact bodyPost_ret (v := .tuple #[.agg #[.bool (ngB (x)), .slice A2 n2 c2, .int .i64 (M : Int)], .int .i64 0]) (by simp [results, Tryz.results98, go_sem, r0, r1, r2]) rfl ⟨A2, n2, c2, rfl, St.got EF (by simp), EF.out.bel⟩
theorem pjoin_quo {A A' : Option Addr} {n c n' c' s t : Nat} {i j : Int} {w : World} {T : ByteArray} (h : Num w w.heap.size A n c i.natAbs) (h' : Num w w.heap.size A' n' c' j.natAbs) (hn : n ≤ 1000) (hn' : n' ≤ 1000) (hs : s ≤ 4010) (ht : t ≤ 4010) (hl : j ≠ 0 → (dg (quoQ i s j t).natAbs).length ≤ 1000) (hT : bs9 T = [47]) :
  Calls Tryz.prog 98 #[.agg #[.bool (ngB i), .slice A n c, .int .i64 (s : Int)], .string T, .agg #[.bool (ngB j), .slice A' n' c', .int .i64 (t : Int)]] w (RetQ w (jnd 47 i s j t)) := by
 show Calls _ _ _ _ (RetQ w (quv i s j t))
 have l43 : (T.toList == [43]) = false := lit_not (l := [43]) (by rw [hT]; decide)
 have l45 : (T.toList == [45]) = false := lit_not (l := [45]) (by rw [hT]; decide)
 have l42 : (T.toList == [42]) = false := lit_not (l := [42]) (by rw [hT]; decide)
 obtain ⟨q, hq⟩ : ∃ q, quv i s j t = q := ⟨_, rfl⟩
 have HQ := Lib.hid hq
 have HL := Lib.hid hl
 rw [hq]
 clear hq hl
 clear hT
 go_enter Tryz.func98, Tryz.ntmps98
 go_wp2_with fail
 have E := Lib.hid ((((St.start w (l := [(A, n, c, i.natAbs), (A', n', c', j.natAbs)]) (by intro q hq; simp at hq; rcases hq with rfl | rfl; exact h; exact h')).alloc (.cells #[.bool (ngB i), .slice A n c, .int .i64 (s : Int)] 28)).alloc (.cells #[.bool (ngB j), .slice A' n' c', .int .i64 (t : Int)] 28)).lay (g := w.heap.size + 1 + 1) (x0 := .bool false) (x1 := .slice none 0 0) (x2 := .int .i64 0) (t := 28) (by simp))
 generalize hW : World.alloc (World.alloc (World.alloc w _) _) _ = W0 at E ⊢
 clear hW
 refine (pquo (i := i) (j := j) (s := s) (t := t) (St.got (A := A) (n := n) (c := c) E (by simp)) (St.got (A := A') (n := n') (c := c') E (by simp)) hn hn' hs ht HL.out).mono ?_; rintro e w1 ⟨A2, n2, c2, rfl, hnum2, hb2⟩
 rw [HQ.out] at hnum2 ⊢
 replace E := Lib.hid (St.push E.out hb2 hnum2)
 clear hnum2 hb2
 obtain ⟨r0, r1, r2, rf0, rf1, rf2, rlt⟩ := St.az (g := w.heap.size + 1 + 1) E (by simp)
 go_wp2_with fail
 clear r0 r1 r2 rf0 rf1 rf2 rlt
 have EF := Lib.hid (St.sz E.out (g := (w.heap.size + 1 + 1)) (by simp) (.bool (ngB (q.1))) (.slice A2 n2 c2) (.int .i64 (q.2.1 : Int)))
 obtain ⟨r0, r1, r2, _, _, _, _⟩ := St.ad (q.1) A2 n2 c2 q.2.1 (g := w.heap.size + 1 + 1) EF (by simp)
 exact bodyPost_ret (v := .tuple #[.agg #[.bool (ngB (q.1)), .slice A2 n2 c2, .int .i64 (q.2.1 : Int)], .int .i64 (q.2.2 : Int)]) (by simp [results, Tryz.results98, go_sem, r0, r1, r2]) rfl ⟨A2, n2, c2, rfl, St.got EF (by simp), EF.out.bel⟩
theorem pjoin {A A' : Option Addr} {n c n' c' s t : Nat} {i j : Int} {w : World} {T : ByteArray} (h : Num w w.heap.size A n c i.natAbs) (h' : Num w w.heap.size A' n' c' j.natAbs) (hn : n ≤ 1000) (hn' : n' ≤ 1000) (hs : s ≤ 4010) (ht : t ≤ 4010) {x : Nat} (hc : x = 43 ∨ x = 45 ∨ x = 42 ∨ x = 47) (hl : x = 47 → j ≠ 0 → (dg (quoQ i s j t).natAbs).length ≤ 1000) (hT : bs9 T = [x]) :
  Calls Tryz.prog 98 #[.agg #[.bool (ngB i), .slice A n c, .int .i64 (s : Int)], .string T, .agg #[.bool (ngB j), .slice A' n' c', .int .i64 (t : Int)]] w (RetQ w (jnd x i s j t)) := by
 rcases hc with rfl | rfl | rfl | rfl
 ·exact pjoin_add h h' hn hn' hs ht hT
 ·exact pjoin_sub h h' hn hn' hs ht hT
 ·exact pjoin_mul h h' hn hn' hs ht hT
 ·exact pjoin_quo h h' hn hn' hs ht (hl rfl) hT
def OutX (x : Int) (k i' e' : Nat) : Rs → Prop
 | .inl (z, b) => 0 < z ∧ e' = z ∧ i' = b ∧ x = 0 ∧ k = 0
 | .inr (y, t, b) => x = y ∧ k = t ∧ i' = b ∧ e' = 0
def RetX (w0 : World) (g : Nat) (A : Option Addr) (n c d : Nat) (r : Rs) (e : Ending) (w' : World) : Prop :=
 ∃ (x : Int) (k : Nat) (A1 : Option Addr) (n1 c1 i' e' : Nat), e = .returned (.tuple #[.agg #[.bool (ngB x), .slice A1 n1 c1, .int .i64 (k : Int)], .int .i64 (e' : Int)]) ∧ Num w' w'.heap.size A1 n1 c1 x.natAbs ∧ StP w' g A n c i' d ∧ Kp g none w0 w' ∧ OutX x k i' e' r
theorem sy_start {w : World} {g B n c i d : Nat} {A : Option Addr} {L : List Tk4} (hs : StP w g A n c i d) (hr : RdK w B A n c L) (hm : MaxLen w) (hp : B ≤ g) :
 SY w (w.alloc (.cells #[.bool false, .slice none 0 0, .int .i64 0] 28)) g B A n c L i d [] [(w.heap.size, .bool false, .slice none 0 0, .int .i64 0)] [] := (SY.start hs hr hm hp).lay rfl
theorem pparse (s : ByteArray) (w : World) (hs : s.size ≤ 6000) (hm : MaxLen w) : Calls Tryz.prog 85 #[.string s] w (RetP w s) := by
 refine (read_any s w hs hm).mono fun e w' h => ?_
 have h0 : Num w' w'.heap.size none 0 0 (0 : Int).natAbs := num_zero _ _
 rcases h with ⟨h1, h2⟩ | ⟨h1, h2, h3⟩ | ⟨h1, h2, A, n, c, h3, h4, h5⟩
 ·exact ⟨0, 0, none, 0, 0, 2, h2.1, h0, h2.2, by unfold numV; rw [if_neg (fun e => e.1 h1)]; rfl⟩
 ·exact ⟨0, 0, none, 0, 0, 3, h3.1, h0, h3.2, by unfold numV; rw [if_neg (fun e => by rw [h2] at e; cases e.2)]; rfl⟩
 ·exact ⟨_, _, A, n, c, 0, h3, h4, h5, by unfold numV; rw [if_pos ⟨h1, h2⟩]; rfl⟩
def numR (T : ByteArray) (i : Nat) : Rs := match numV T with | none => .inl (3, i) | some (x, k) => .inr (x, k, i + 1)
theorem pnumber {w : World} {g B n c i d : Nat} {A : Option Addr} {L : List Tk4} (hs : StP w g A n c i d) (hr : RdK w B A n c L) (hm : MaxLen w) (hp : B ≤ g) (hi : i ≤ 1000) (T : ByteArray) (hT : T.size ≤ 6000) : Calls Tryz.prog 116 #[.pointer (some ⟨g, 0, none⟩), .string T] w (RetX w g A n c d (numR T i)) := by
 have E := Lib.hid (sy_start hs hr hm hp)
 have hgw := hs.lt
 clear hs hr hm
 go_enter Tryz.func116, Tryz.ntmps116
 go_wp2_with fail
 generalize hW : World.alloc w _ = W1 at E ⊢
 clear hW
 refine (pparse T _ hT E.out.mx).mono ?_; rintro e w5 ⟨x5, k5, A5, n5, c5, z5, rfl, hn5, hb5, hv5⟩
 replace E := Lib.hid (SY.push (SY.step E.out hb5) hn5)
 have HV := Lib.hid hv5
 clear hn5 hb5 hv5
 have EL := Lib.hid (SY.lay (g1 := w5.heap.size) (x0 := .bool (ngB x5)) (x1 := .slice A5 n5 c5) (x2 := .int .i64 (k5 : Int)) (t := 28) E.out rfl)
 rcases Nat.eq_zero_or_pos z5 with hz | hz
 ·have dz : ((z5 : Int) != 0) = false := by rw [hz]; rfl
  obtain ⟨i1, hi1⟩ : ∃ i1, i + 1 = i1 := ⟨_, rfl⟩
  have HR : Hid (numR T i = .inr (x5, k5, i1)) := by
   show _ = _
   unfold numR; rw [HV.out, if_pos hz, hi1]
  have HI := Lib.hid hi1
  clear hz hi1 E
  go_wp2_with fail
  obtain ⟨g5, hg5⟩ : ∃ g, w5.heap.size = g := ⟨_, rfl⟩
  rw [hg5] at EL ⊢
  clear hg5
  generalize hV : World.alloc w5 _ = V5 at EL ⊢
  clear hV
  refine (ppass EL.out.st (by omega) i1 HI.out).mono ?_; rintro e w6 ⟨rfl, rfl⟩
  have E := Lib.hid (SY.set1 EL.out i1)
  clear EL
  obtain ⟨q0, q1, q2, qf0, qf1, qf2, qlt⟩ := SY.ad x5 A5 n5 c5 k5 (g1 := g5) E (by simp)
  obtain ⟨r0, r1, r2, rf0, rf1, rf2, rlt⟩ := SY.az (g1 := w.heap.size) E (by simp)
  go_wp2_with fail
  clear q0 q1 q2 qf0 qf1 qf2 qlt
  clear r0 r1 r2 rf0 rf1 rf2 rlt
  have EF := Lib.hid (SY.pz E.out (g1 := w.heap.size) (by simp) (.bool (ngB x5)) (.slice A5 n5 c5) (.int .i64 (k5 : Int)))
  obtain ⟨r0, r1, r2, _, _, _, _⟩ := SY.ad x5 A5 n5 c5 k5 (g1 := w.heap.size) EF (by simp)
  exact bodyPost_ret (v := .tuple #[.agg #[.bool (ngB x5), .slice A5 n5 c5, .int .i64 (k5 : Int)], .int .i64 0]) (by simp [results, Tryz.results116, go_sem, r0, r1, r2]) rfl ⟨x5, k5, A5, n5, c5, i1, 0, rfl, SY.got EF (by simp), EF.out.st, EF.out.kp, by rw [HR.out]; exact ⟨rfl, rfl, rfl, rfl⟩⟩
 ·have dz : ((z5 : Int) != 0) = true := by rw [bne_iff_ne]; omega
  have HR : Hid (numR T i = .inl (3, i)) := by
   show _ = _
   unfold numR; rw [HV.out, if_neg (by omega)]
  clear hz
  obtain ⟨r0, r1, r2, rf0, rf1, rf2, rlt⟩ := SY.az (g1 := w.heap.size) EL (by simp)
  go_wp2_with fail
  clear r0 r1 r2 rf0 rf1 rf2 rlt
  have EF := Lib.hid (SY.pz EL.out (g1 := w.heap.size) (by simp) (.bool false) (.slice none 0 0) (.int .i64 0))
  obtain ⟨r0, r1, r2, _, _, _, _⟩ := SY.az (g1 := w.heap.size) EF (by simp)
  exact bodyPost_ret (v := .tuple #[.agg #[.bool false, .slice none 0 0, .int .i64 0], .int .i64 3]) (by simp [results, Tryz.results116, go_sem, r0, r1, r2]) rfl ⟨0, 0, none, 0, 0, i, 3, rfl, num_zero _ _, EF.out.st, EF.out.kp, by rw [HR.out]; exact ⟨by omega, rfl, rfl, rfl, rfl⟩⟩
def SumP (L : List Tk4) (i : Nat) : Prop := ∀ {w : World} {g B n c d : Nat} {A : Option Addr}, StP w g A n c i d → RdK w B A n c L → MaxLen w → B ≤ g → n ≤ 400 → d ≤ 64 → Calls Tryz.prog 53 #[.pointer (some ⟨g, 0, none⟩)] w (RetX w g A n c d (SUM (L.map tok) d i))
def ProP (L : List Tk4) (i : Nat) : Prop := ∀ {w : World} {g B n c d : Nat} {A : Option Addr}, StP w g A n c i d → RdK w B A n c L → MaxLen w → B ≤ g → n ≤ 400 → d ≤ 64 → Calls Tryz.prog 75 #[.pointer (some ⟨g, 0, none⟩)] w (RetX w g A n c d (PRO (L.map tok) d i))
def FacP (L : List Tk4) (i : Nat) : Prop := ∀ {w : World} {g B n c d : Nat} {A : Option Addr}, StP w g A n c i d → RdK w B A n c L → MaxLen w → B ≤ g → n ≤ 400 → d ≤ 64 → Calls Tryz.prog 99 #[.pointer (some ⟨g, 0, none⟩)] w (RetX w g A n c d (FAC (L.map tok) d i))
theorem pshut {w : World} {g B n c i d : Nat} {A : Option Addr} {L : List Tk4} (hs : StP w g A n c i d) (hr : RdK w B A n c L) (hm : MaxLen w) (hp : B ≤ g) (hn : n ≤ 400) (hd : d ≤ 64) (HC : SumP L i) : Calls Tryz.prog 138 #[.pointer (some ⟨g, 0, none⟩)] w (RetX w g A n c d (Rs.shut (L.map tok) (SUM (L.map tok) d i))) := by
 have hlen := hr.len
 have hgw := hs.lt
 have E := Lib.hid (sy_start hs hr hm hp)
 have hlt : ∀ j t b, SUM (L.map tok) d i = .inr (j, t, b) → b ≤ n := fun j t b h => by have := (SUM_lt h rfl).2; rw [List.length_map] at this; omega
 have HLT := Lib.hid hlt
 have HLEN := Lib.hid hlen
 clear hs hr hm hlt hlen
 go_enter Tryz.func138, Tryz.ntmps138
 go_wp2_with fail
 generalize hW : World.alloc w _ = W1 at E ⊢
 clear hW
 refine (HC E.out.st E.out.rd E.out.mx hp hn hd).mono ?_; rintro e w9 ⟨x9, k9, A9, n9, c9, i9, e9, rfl, hnum9, hst9, hkp9, hout⟩
 replace E := Lib.hid (SY.push (SY.call E.out hkp9 hst9) hnum9)
 clear hnum9 hst9 hkp9
 cases hS : SUM (L.map tok) d i with
 | inl r =>
  obtain ⟨z, b⟩ := r
  rw [hS] at hout
  obtain ⟨hz, rfl, rfl, -, -⟩ := hout
  have dz : ((e9 : Int) != 0) = true := by rw [bne_iff_ne]; omega
  have HO : Hid (Rs.shut (L.map tok) (SUM (L.map tok) d i) = .inl (e9, i9)) := by show _ = _; rw [hS]; rfl
  have EL := Lib.hid (SY.lay (g1 := w9.heap.size) (x0 := .bool (ngB x9)) (x1 := .slice A9 n9 c9) (x2 := .int .i64 (k9 : Int)) (t := 28) E.out rfl)
  clear hS
  obtain ⟨r0, r1, r2, rf0, rf1, rf2, rlt⟩ := SY.az (g1 := w.heap.size) EL (by simp)
  go_wp2_with fail
  clear r0 r1 r2 rf0 rf1 rf2 rlt
  have EF := Lib.hid (SY.pz EL.out (g1 := w.heap.size) (by simp) (.bool false) (.slice none 0 0) (.int .i64 0))
  obtain ⟨r0, r1, r2, _, _, _, _⟩ := SY.az (g1 := w.heap.size) EF (by simp)
  exact bodyPost_ret (v := .tuple #[.agg #[.bool false, .slice none 0 0, .int .i64 0], .int .i64 (e9 : Int)]) (by simp [results, Tryz.results138, go_sem, r0, r1, r2]) rfl ⟨0, 0, none, 0, 0, i9, e9, rfl, num_zero _ _, EF.out.st, EF.out.kp, by rw [HO.out]; exact ⟨hz, rfl, rfl, rfl, rfl⟩⟩
 | inr r =>
  obtain ⟨j, s, b⟩ := r
  have hbn := HLT.out _ _ _ hS
  rw [hS] at hout
  obtain ⟨rfl, rfl, rfl, rfl⟩ := hout
  have HS := Lib.hid hS
  clear hS
  go_wp2_with fail
  replace E := Lib.hid (SY.lay (g1 := w9.heap.size) (x0 := .bool (ngB x9)) (x1 := .slice A9 n9 c9) (x2 := .int .i64 (k9 : Int)) (t := 28) E.out rfl)
  obtain ⟨g9, hg9⟩ : ∃ g, w9.heap.size = g := ⟨_, rfl⟩
  rw [hg9] at E ⊢
  clear hg9
  generalize hV : World.alloc w9 _ = V9 at E ⊢
  clear hV
  rcases Nat.lt_or_ge i9 n with hin | hin
  ·obtain ⟨t, ht⟩ : ∃ t, L[i9]? = some t := ⟨_, List.getElem?_eq_getElem (by have := HLEN.out; omega)⟩
   obtain ⟨k, T, l, m⟩ := t
   refine (pnext_some E.out.st E.out.rd (by have := E.out.pl; have := E.out.st.lt; omega) (by omega) ht).mono ?_; rintro e w10 ⟨rfl, hb⟩
   replace E := Lib.hid (SY.step E.out hb)
   clear hb
   unfold tk4
   go_wp2_with fail
   have SG := Lib.hid (sgn_one (World.alloc w10 (.cells #[.int .i64 k, .string T, .int .i64 l, .int .i64 m] 54)) ⟨#[41]⟩ 9 (q := w10.heap.size + 1) (by simp))
   have ES := Lib.hid ((SY.word (g1 := w10.heap.size) E.out k T l m (t := 54) rfl).alloc (.cells #[.string ⟨#[41]⟩] 9))
   clear E
   obtain ⟨g10, hg10⟩ : ∃ g, w10.heap.size = g := ⟨_, rfl⟩
   rw [hg10] at ES SG ⊢
   clear hg10
   generalize hV : World.alloc (World.alloc w10 _) _ = V10 at ES SG ⊢
   clear hV
   cases hI : isAt (L.map tok) i9 41 with
   | true =>
    have HO : Hid (Rs.shut (L.map tok) (SUM (L.map tok) d i) = .inr (x9, k9, i9 + 1)) := by
     show _ = _
     rw [HS.out]
     unfold Rs.shut
     dsimp only
     rw [if_pos hI]
    have HI : Hid (isgs (k, T) [⟨#[41]⟩] = true) := by
     show _ = _
     rw [isgs_one _ (x := 41) rfl, ← hI, isAt_some ht]
    clear hI
    refine (pissign SG.out HI.out l m).mono ?_; rintro e w11 ⟨rfl, hb⟩
    have E := Lib.hid (SY.step ES.out hb)
    clear hb ES SG
    obtain ⟨i1, hi1⟩ : ∃ i1, i9 + 1 = i1 := ⟨_, rfl⟩
    have HI1 := Lib.hid hi1
    rw [hi1] at HO
    clear hi1
    go_wp2_with fail
    refine (ppass E.out.st (by omega) i1 HI1.out).mono ?_; rintro e w12 ⟨rfl, rfl⟩
    replace E := Lib.hid (SY.set1 E.out i1)
    obtain ⟨q0, q1, q2, qf0, qf1, qf2, qlt⟩ := SY.ad x9 A9 n9 c9 k9 (g1 := g9) E (by simp)
    obtain ⟨r0, r1, r2, rf0, rf1, rf2, rlt⟩ := SY.az (g1 := w.heap.size) E (by simp)
    go_wp2_with fail
    clear q0 q1 q2 qf0 qf1 qf2 qlt
    clear r0 r1 r2 rf0 rf1 rf2 rlt
    have EF := Lib.hid (SY.pz E.out (g1 := w.heap.size) (by simp) (.bool (ngB x9)) (.slice A9 n9 c9) (.int .i64 (k9 : Int)))
    obtain ⟨r0, r1, r2, _, _, _, _⟩ := SY.ad x9 A9 n9 c9 k9 (g1 := w.heap.size) EF (by simp)
    exact bodyPost_ret (v := .tuple #[.agg #[.bool (ngB x9), .slice A9 n9 c9, .int .i64 (k9 : Int)], .int .i64 0]) (by simp [results, Tryz.results138, go_sem, r0, r1, r2]) rfl ⟨x9, k9, A9, n9, c9, i1, 0, rfl, SY.got EF (by simp), EF.out.st, EF.out.kp, by rw [HO.out]; exact ⟨rfl, rfl, rfl, rfl⟩⟩
   | false =>
    have HO : Hid (Rs.shut (L.map tok) (SUM (L.map tok) d i) = .inl (3, i9)) := by
     show _ = _
     rw [HS.out]
     unfold Rs.shut
     dsimp only
     rw [if_neg (by rw [hI]; decide), if_pos (by rw [List.length_map]; have := HLEN.out; omega)]
    have HI : Hid (isgs (k, T) [⟨#[41]⟩] = false) := by
     show _ = _
     rw [isgs_one _ (x := 41) rfl, ← hI, isAt_some ht]
    clear hI
    refine (pissign SG.out HI.out l m).mono ?_; rintro e w11 ⟨rfl, hb⟩
    have E := Lib.hid (SY.step ES.out hb)
    clear hb ES SG
    obtain ⟨r0, r1, r2, rf0, rf1, rf2, rlt⟩ := SY.az (g1 := w.heap.size) E (by simp)
    go_wp2_with fail
    clear r0 r1 r2 rf0 rf1 rf2 rlt
    have EF := Lib.hid (SY.pz E.out (g1 := w.heap.size) (by simp) (.bool false) (.slice none 0 0) (.int .i64 0))
    obtain ⟨r0, r1, r2, _, _, _, _⟩ := SY.az (g1 := w.heap.size) EF (by simp)
    exact bodyPost_ret (v := .tuple #[.agg #[.bool false, .slice none 0 0, .int .i64 0], .int .i64 3]) (by simp [results, Tryz.results138, go_sem, r0, r1, r2]) rfl ⟨0, 0, none, 0, 0, i9, 3, rfl, num_zero _ _, EF.out.st, EF.out.kp, by rw [HO.out]; exact ⟨by omega, rfl, rfl, rfl, rfl⟩⟩
  ·obtain rfl : i9 = n := by omega
   refine (pnext_end E.out.st rfl).mono ?_; rintro e w10 ⟨rfl, hb⟩
   replace E := Lib.hid (SY.step E.out hb)
   clear hb
   have EL := Lib.hid (SY.word (g1 := w10.heap.size) E.out 0 ⟨#[]⟩ 0 0 (t := 54) rfl)
   have HO : Hid (Rs.shut (L.map tok) (SUM (L.map tok) d i) = .inl (2, i9)) := by
    show _ = _
    rw [HS.out]
    unfold Rs.shut
    dsimp only
    rw [isAt_none (by have := HLEN.out; omega), if_neg (by decide), if_neg (by rw [List.length_map]; have := HLEN.out; omega)]
   obtain ⟨r0, r1, r2, rf0, rf1, rf2, rlt⟩ := SY.az (g1 := w.heap.size) EL (by simp)
   go_wp2_with fail
   clear r0 r1 r2 rf0 rf1 rf2 rlt
   have EF := Lib.hid (SY.pz EL.out (g1 := w.heap.size) (by simp) (.bool false) (.slice none 0 0) (.int .i64 0))
   obtain ⟨r0, r1, r2, _, _, _, _⟩ := SY.az (g1 := w.heap.size) EF (by simp)
   exact bodyPost_ret (v := .tuple #[.agg #[.bool false, .slice none 0 0, .int .i64 0], .int .i64 2]) (by simp [results, Tryz.results138, go_sem, r0, r1, r2]) rfl ⟨0, 0, none, 0, 0, i9, 2, rfl, num_zero _ _, EF.out.st, EF.out.kp, by rw [HO.out]; exact ⟨by omega, rfl, rfl, rfl, rfl⟩⟩
theorem pbeh_open {w : World} {g B n c i d : Nat} {A : Option Addr} {L : List Tk4} (hs : StP w g A n c i d) (hr : RdK w B A n c L) (hm : MaxLen w) (hp : B ≤ g) (hn : n ≤ 400) (hd : d ≤ 64) {R : Rs} (HC : ∀ w' : World, StP w' g A n c i d → RdK w' B A n c L → MaxLen w' → Calls Tryz.prog 138 #[.pointer (some ⟨g, 0, none⟩)] w' (RetX w' g A n c d R)) {T : ByteArray} (hT : bs9 T = [40]) : Calls Tryz.prog 117 #[.pointer (some ⟨g, 0, none⟩), .string T] w (RetX w g A n c d R) := by
 have hlen := hr.len
 have hgw := hs.lt
 have E := Lib.hid (sy_start hs hr hm hp)
 have l40 : (T.toList == [40]) = true := lit_yes (l := [40]) hT
 clear hs hr hm hT
 go_enter Tryz.func117, Tryz.ntmps117
 go_wp2_with fail
 generalize hW : World.alloc w _ = W1 at E ⊢
 clear hW
 refine (HC _ E.out.st E.out.rd E.out.mx).mono ?_; rintro e w9 ⟨x9, k9, A9, n9, c9, i9, e9, rfl, hnum9, hst9, hkp9, hout⟩
 replace E := Lib.hid (SY.push (SY.call E.out hkp9 hst9) hnum9)
 clear hnum9 hst9 hkp9
 have HO := Lib.hid hout
 clear hout
 obtain ⟨r0, r1, r2, rf0, rf1, rf2, rlt⟩ := SY.az (g1 := w.heap.size) E (by simp)
 go_wp2_with fail
 clear r0 r1 r2 rf0 rf1 rf2 rlt
 have EF := Lib.hid (SY.pz E.out (g1 := w.heap.size) (by simp) (.bool (ngB x9)) (.slice A9 n9 c9) (.int .i64 (k9 : Int)))
 obtain ⟨r0, r1, r2, _, _, _, _⟩ := SY.ad x9 A9 n9 c9 k9 (g1 := w.heap.size) EF (by simp)
 exact bodyPost_ret (v := .tuple #[.agg #[.bool (ngB x9), .slice A9 n9 c9, .int .i64 (k9 : Int)], .int .i64 (e9 : Int)]) (by simp [results, Tryz.results117, go_sem, r0, r1, r2]) rfl ⟨x9, k9, A9, n9, c9, i9, e9, rfl, SY.got EF (by simp), EF.out.st, EF.out.kp, HO.out⟩
theorem pbeh_plus {w : World} {g B n c i d : Nat} {A : Option Addr} {L : List Tk4} (hs : StP w g A n c i d) (hr : RdK w B A n c L) (hm : MaxLen w) (hp : B ≤ g) (hn : n ≤ 400) (hd : d ≤ 64) {G : Nat → Nat → Int → Nat → Prop} (hL : Siz (L.map tok) G) (HC : FacP L i) {T : ByteArray} (hT : bs9 T = [43]) : Calls Tryz.prog 117 #[.pointer (some ⟨g, 0, none⟩), .string T] w (RetX w g A n c d (Rs.neg false (FAC (L.map tok) d i))) := by
 have hlen := hr.len
 have hgw := hs.lt
 have E := Lib.hid (sy_start hs hr hm hp)
 have l40 : (T.toList == [40]) = false := lit_not (l := [40]) (by rw [hT]; decide)
 have l43 : (T.toList == [43]) = true := lit_yes (l := [43]) hT
 have HLEN := Lib.hid hlen
 have HL := Lib.hid hL
 clear hs hr hm hT hlen hL
 go_enter Tryz.func117, Tryz.ntmps117
 go_wp2_with fail
 generalize hW : World.alloc w _ = W1 at E ⊢
 clear hW
 refine (HC E.out.st E.out.rd E.out.mx hp hn hd).mono ?_; rintro e w9 ⟨x9, k9, A9, n9, c9, i9, e9, rfl, hnum9, hst9, hkp9, hout⟩
 replace E := Lib.hid (SY.push (SY.call E.out hkp9 hst9) hnum9)
 clear hnum9 hst9 hkp9
 cases hF : FAC (L.map tok) d i with
 | inl r =>
  obtain ⟨z, b⟩ := r
  rw [hF] at hout
  obtain ⟨hz, rfl, rfl, hx, hk⟩ := hout
  have HX := Lib.hid hx
  have HK := Lib.hid hk
  have dz : ((e9 : Int) != 0) = true := by rw [bne_iff_ne]; omega
  have HO : Hid (Rs.neg false (FAC (L.map tok) d i) = .inl (e9, i9)) := by show _ = _; rw [hF]; rfl
  have EL := Lib.hid (SY.lay (g1 := w9.heap.size) (x0 := .bool (ngB x9)) (x1 := .slice A9 n9 c9) (x2 := .int .i64 (k9 : Int)) (t := 28) E.out rfl)
  clear hF hx hk E
  obtain ⟨q0, q1, q2, qf0, qf1, qf2, qlt⟩ := SY.ad x9 A9 n9 c9 k9 (g1 := w9.heap.size) EL (by simp)
  obtain ⟨r0, r1, r2, rf0, rf1, rf2, rlt⟩ := SY.az (g1 := w.heap.size) EL (by simp)
  go_wp2_with fail
  clear q0 q1 q2 qf0 qf1 qf2 qlt
  clear r0 r1 r2 rf0 rf1 rf2 rlt
  have EF := Lib.hid (SY.pz EL.out (g1 := w.heap.size) (by simp) (.bool (ngB x9)) (.slice A9 n9 c9) (.int .i64 (k9 : Int)))
  obtain ⟨r0, r1, r2, _, _, _, _⟩ := SY.ad x9 A9 n9 c9 k9 (g1 := w.heap.size) EF (by simp)
  exact bodyPost_ret (v := .tuple #[.agg #[.bool (ngB x9), .slice A9 n9 c9, .int .i64 (k9 : Int)], .int .i64 (e9 : Int)]) (by simp [results, Tryz.results117, go_sem, r0, r1, r2]) rfl ⟨x9, k9, A9, n9, c9, i9, e9, rfl, SY.got EF (by simp), EF.out.st, EF.out.kp, by rw [HO.out]; exact ⟨hz, rfl, rfl, HX.out, HK.out⟩⟩
 | inr r =>
  obtain ⟨j, s, b⟩ := r
  rw [hF] at hout
  obtain ⟨rfl, rfl, rfl, rfl⟩ := hout
  have hfit := HL.out.fits (HL.out.fac hF)
  have hn9 : n9 ≤ 1000 := by have := (SY.got E (A1 := A9) (n1 := n9) (c1 := c9) (x := x9.natAbs) (by simp)).len; omega
  have hk9 : k9 ≤ 4010 := hfit.2
  have HO : Hid (Rs.neg false (FAC (L.map tok) d i) = .inr (x9, k9, i9)) := by show _ = _; rw [hF]; rfl
  clear hF hfit
  have EL := Lib.hid (SY.lay (g1 := w9.heap.size) (x0 := .bool (ngB x9)) (x1 := .slice A9 n9 c9) (x2 := .int .i64 (k9 : Int)) (t := 28) E.out rfl)
  clear E
  obtain ⟨q0, q1, q2, qf0, qf1, qf2, qlt⟩ := SY.ad x9 A9 n9 c9 k9 (g1 := w9.heap.size) EL (by simp)
  obtain ⟨r0, r1, r2, rf0, rf1, rf2, rlt⟩ := SY.az (g1 := w.heap.size) EL (by simp)
  go_wp2_with fail
  clear q0 q1 q2 qf0 qf1 qf2 qlt
  clear r0 r1 r2 rf0 rf1 rf2 rlt
  have EF := Lib.hid (SY.pz EL.out (g1 := w.heap.size) (by simp) (.bool (ngB x9)) (.slice A9 n9 c9) (.int .i64 (k9 : Int)))
  obtain ⟨r0, r1, r2, _, _, _, _⟩ := SY.ad x9 A9 n9 c9 k9 (g1 := w.heap.size) EF (by simp)
  exact bodyPost_ret (v := .tuple #[.agg #[.bool (ngB x9), .slice A9 n9 c9, .int .i64 (k9 : Int)], .int .i64 0]) (by simp [results, Tryz.results117, go_sem, r0, r1, r2]) rfl ⟨x9, k9, A9, n9, c9, i9, 0, rfl, SY.got EF (by simp), EF.out.st, EF.out.kp, by rw [HO.out]; exact ⟨rfl, rfl, rfl, rfl⟩⟩
theorem pbeh_minus {w : World} {g B n c i d : Nat} {A : Option Addr} {L : List Tk4} (hs : StP w g A n c i d) (hr : RdK w B A n c L) (hm : MaxLen w) (hp : B ≤ g) (hn : n ≤ 400) (hd : d ≤ 64) {G : Nat → Nat → Int → Nat → Prop} (hL : Siz (L.map tok) G) (HC : FacP L i) {T : ByteArray} (hT : bs9 T = [45]) : Calls Tryz.prog 117 #[.pointer (some ⟨g, 0, none⟩), .string T] w (RetX w g A n c d (Rs.neg true (FAC (L.map tok) d i))) := by
 have hlen := hr.len
 have hgw := hs.lt
 have E := Lib.hid (sy_start hs hr hm hp)
 have l40 : (T.toList == [40]) = false := lit_not (l := [40]) (by rw [hT]; decide)
 have l43 : (T.toList == [43]) = false := lit_not (l := [43]) (by rw [hT]; decide)
 have HLEN := Lib.hid hlen
 have HL := Lib.hid hL
 clear hs hr hm hT hlen hL
 go_enter Tryz.func117, Tryz.ntmps117
 go_wp2_with fail
 generalize hW : World.alloc w _ = W1 at E ⊢
 clear hW
 refine (HC E.out.st E.out.rd E.out.mx hp hn hd).mono ?_; rintro e w9 ⟨x9, k9, A9, n9, c9, i9, e9, rfl, hnum9, hst9, hkp9, hout⟩
 replace E := Lib.hid (SY.push (SY.call E.out hkp9 hst9) hnum9)
 clear hnum9 hst9 hkp9
 cases hF : FAC (L.map tok) d i with
 | inl r =>
  obtain ⟨z, b⟩ := r
  rw [hF] at hout
  obtain ⟨hz, rfl, rfl, hx, hk⟩ := hout
  have HX := Lib.hid hx
  have HK := Lib.hid hk
  have dz : ((e9 : Int) != 0) = true := by rw [bne_iff_ne]; omega
  have HO : Hid (Rs.neg true (FAC (L.map tok) d i) = .inl (e9, i9)) := by show _ = _; rw [hF]; rfl
  have EL := Lib.hid (SY.lay (g1 := w9.heap.size) (x0 := .bool (ngB x9)) (x1 := .slice A9 n9 c9) (x2 := .int .i64 (k9 : Int)) (t := 28) E.out rfl)
  clear hF hx hk E
  obtain ⟨q0, q1, q2, qf0, qf1, qf2, qlt⟩ := SY.ad x9 A9 n9 c9 k9 (g1 := w9.heap.size) EL (by simp)
  obtain ⟨r0, r1, r2, rf0, rf1, rf2, rlt⟩ := SY.az (g1 := w.heap.size) EL (by simp)
  go_wp2_with fail
  clear q0 q1 q2 qf0 qf1 qf2 qlt
  clear r0 r1 r2 rf0 rf1 rf2 rlt
  have EF := Lib.hid (SY.pz EL.out (g1 := w.heap.size) (by simp) (.bool (ngB x9)) (.slice A9 n9 c9) (.int .i64 (k9 : Int)))
  obtain ⟨r0, r1, r2, _, _, _, _⟩ := SY.ad x9 A9 n9 c9 k9 (g1 := w.heap.size) EF (by simp)
  exact bodyPost_ret (v := .tuple #[.agg #[.bool (ngB x9), .slice A9 n9 c9, .int .i64 (k9 : Int)], .int .i64 (e9 : Int)]) (by simp [results, Tryz.results117, go_sem, r0, r1, r2]) rfl ⟨x9, k9, A9, n9, c9, i9, e9, rfl, SY.got EF (by simp), EF.out.st, EF.out.kp, by rw [HO.out]; exact ⟨hz, rfl, rfl, HX.out, HK.out⟩⟩
 | inr r =>
  obtain ⟨j, s, b⟩ := r
  rw [hF] at hout
  obtain ⟨rfl, rfl, rfl, rfl⟩ := hout
  have hfit := HL.out.fits (HL.out.fac hF)
  have hn9 : n9 ≤ 1000 := by have := (SY.got E (A1 := A9) (n1 := n9) (c1 := c9) (x := x9.natAbs) (by simp)).len; omega
  have hk9 : k9 ≤ 4010 := hfit.2
  have HO : Hid (Rs.neg true (FAC (L.map tok) d i) = .inr (-x9, k9, i9)) := by show _ = _; rw [hF]; rfl
  clear hF hfit
  obtain ⟨y8, hy8⟩ : ∃ y, -x9 = y := ⟨_, rfl⟩
  rw [hy8] at HO
  have HY := Lib.hid hy8
  clear hy8
  have EL := Lib.hid (SY.lay (g1 := w9.heap.size) (x0 := .bool (ngB x9)) (x1 := .slice A9 n9 c9) (x2 := .int .i64 (k9 : Int)) (t := 28) E.out rfl)
  obtain ⟨q0, q1, q2, qf0, qf1, qf2, qlt⟩ := SY.ad x9 A9 n9 c9 k9 (g1 := w9.heap.size) EL (by simp)
  go_wp2_with fail
  clear q0 q1 q2 qf0 qf1 qf2 qlt
  clear E
  have E := EL
  clear EL
  obtain ⟨g9, hg9⟩ : ∃ g, w9.heap.size = g := ⟨_, rfl⟩
  rw [hg9] at E ⊢
  clear hg9
  generalize hV : World.alloc w9 _ = V9 at E ⊢
  clear hV
  refine (neg_is5 (i := x9) (s := k9) (x := y8) (SY.got E (A1 := A9) (n1 := n9) (c1 := c9) (by simp)) (by omega) (by omega) HY.out).mono ?_; rintro e w10 ⟨A8, n8, c8, rfl, hnum8, hb8⟩
  replace E := Lib.hid (SY.push (SY.step E.out hb8) hnum8)
  clear hnum8 hb8
  obtain ⟨r0, r1, r2, rf0, rf1, rf2, rlt⟩ := SY.az (g1 := w.heap.size) E (by simp)
  go_wp2_with fail
  clear r0 r1 r2 rf0 rf1 rf2 rlt
  have EF := Lib.hid (SY.pz E.out (g1 := w.heap.size) (by simp) (.bool (ngB y8)) (.slice A8 n8 c8) (.int .i64 (k9 : Int)))
  obtain ⟨r0, r1, r2, _, _, _, _⟩ := SY.ad y8 A8 n8 c8 k9 (g1 := w.heap.size) EF (by simp)
  exact bodyPost_ret (v := .tuple #[.agg #[.bool (ngB y8), .slice A8 n8 c8, .int .i64 (k9 : Int)], .int .i64 0]) (by simp [results, Tryz.results117, go_sem, r0, r1, r2]) rfl ⟨y8, k9, A8, n8, c8, i9, 0, rfl, SY.got EF (by simp), EF.out.st, EF.out.kp, by rw [HO.out]; exact ⟨rfl, rfl, rfl, rfl⟩⟩
theorem pfac_end {w : World} {g B n c i d : Nat} {A : Option Addr} {L : List Tk4} (hs : StP w g A n c i d) (hr : RdK w B A n c L) (hm : MaxLen w) (hp : B ≤ g) (hn : n ≤ 400) (hd : d ≤ 64) (hi : i = n) : Calls Tryz.prog 99 #[.pointer (some ⟨g, 0, none⟩)] w (RetX w g A n c d (FAC (L.map tok) d i)) := by
 have hlen := hr.len
 have hgw := hs.lt
 have E := Lib.hid (sy_start hs hr hm hp)
 have HO : Hid (FAC (L.map tok) d i = .inl (2, i)) := FAC_none (by rw [List.length_map]; omega)
 clear hs hr hm hlen
 go_enter Tryz.func99, Tryz.ntmps99
 go_wp2_with fail
 generalize hW : World.alloc w _ = W1 at E ⊢
 clear hW
 refine (pnext_end E.out.st hi).mono ?_; rintro e w10 ⟨rfl, hb⟩
 replace E := Lib.hid (SY.step E.out hb)
 clear hb
 have EL := Lib.hid (SY.word (g1 := w10.heap.size) E.out 0 ⟨#[]⟩ 0 0 (t := 54) rfl)
 obtain ⟨r0, r1, r2, rf0, rf1, rf2, rlt⟩ := SY.az (g1 := w.heap.size) EL (by simp)
 go_wp2_with fail
 clear r0 r1 r2 rf0 rf1 rf2 rlt
 have EF := Lib.hid (SY.pz EL.out (g1 := w.heap.size) (by simp) (.bool false) (.slice none 0 0) (.int .i64 0))
 obtain ⟨r0, r1, r2, _, _, _, _⟩ := SY.az (g1 := w.heap.size) EF (by simp)
 exact bodyPost_ret (v := .tuple #[.agg #[.bool false, .slice none 0 0, .int .i64 0], .int .i64 2]) (by simp [results, Tryz.results99, go_sem, r0, r1, r2]) rfl ⟨0, 0, none, 0, 0, i, 2, rfl, num_zero _ _, EF.out.st, EF.out.kp, by rw [HO.out]; exact ⟨by omega, rfl, rfl, rfl, rfl⟩⟩
theorem pfac_not {w : World} {g B n c i d : Nat} {A : Option Addr} {L : List Tk4} (hs : StP w g A n c i d) (hr : RdK w B A n c L) (hm : MaxLen w) (hp : B ≤ g) (hn : n ≤ 400) (hd : d ≤ 64) {t : Tk4} (ht : L[i]? = some t) (hst : sta (tok t) = false) : Calls Tryz.prog 99 #[.pointer (some ⟨g, 0, none⟩)] w (RetX w g A n c d (FAC (L.map tok) d i)) := by
 have hlen := hr.len
 have hgw := hs.lt
 have E := Lib.hid (sy_start hs hr hm hp)
 obtain ⟨k, T, l, m⟩ := t
 have hk : k ≠ 4 := fun e => by have h : sta (k, T) = false := hst; rw [e] at h; unfold sta at h; simp at h
 have HO : Hid (FAC (L.map tok) d i = .inl (3, i)) := FAC_not (t := (k, T)) (by rw [List.getElem?_map, ht]; rfl) hk hst
 have HST : Hid (sta (k, T) = false) := hst
 clear hst hk
 have HT := Lib.hid ht
 clear hs hr hm hlen
 go_enter Tryz.func99, Tryz.ntmps99
 go_wp2_with fail
 generalize hW : World.alloc w _ = W1 at E ⊢
 clear hW
 refine (pnext_some E.out.st E.out.rd (by have := E.out.pl; have := E.out.st.lt; omega) (by omega) ht).mono ?_; rintro e w10 ⟨rfl, hb⟩
 replace E := Lib.hid (SY.step E.out hb)
 clear hb ht
 unfold tk4
 go_wp2_with fail
 replace E := Lib.hid (SY.word (g1 := w10.heap.size) E.out k T l m (t := 54) rfl)
 obtain ⟨g4, hg4⟩ : ∃ g, w10.heap.size = g := ⟨_, rfl⟩
 rw [hg4] at E ⊢
 clear hg4
 generalize hV : World.alloc w10 _ = V10 at E ⊢
 clear hV
 refine (pstarts HST.out l m).mono ?_; rintro e w11 ⟨rfl, hb⟩
 replace E := Lib.hid (SY.step E.out hb)
 clear hb
 obtain ⟨r0, r1, r2, rf0, rf1, rf2, rlt⟩ := SY.az (g1 := w.heap.size) E (by simp)
 go_wp2_with fail
 clear r0 r1 r2 rf0 rf1 rf2 rlt
 have EF := Lib.hid (SY.pz E.out (g1 := w.heap.size) (by simp) (.bool false) (.slice none 0 0) (.int .i64 0))
 obtain ⟨r0, r1, r2, _, _, _, _⟩ := SY.az (g1 := w.heap.size) EF (by simp)
 exact bodyPost_ret (v := .tuple #[.agg #[.bool false, .slice none 0 0, .int .i64 0], .int .i64 3]) (by simp [results, Tryz.results99, go_sem, r0, r1, r2]) rfl ⟨0, 0, none, 0, 0, i, 3, rfl, num_zero _ _, EF.out.st, EF.out.kp, by rw [HO.out]; exact ⟨by omega, rfl, rfl, rfl, rfl⟩⟩
theorem pfac_num {w : World} {g B n c i d : Nat} {A : Option Addr} {L : List Tk4} (hs : StP w g A n c i d) (hr : RdK w B A n c L) (hm : MaxLen w) (hp : B ≤ g) (hn : n ≤ 400) (hd : d ≤ 64) {t : Tk4} (ht : L[i]? = some t) (hk : t.1 = 4) (hT : t.2.1.size ≤ 6000) : Calls Tryz.prog 99 #[.pointer (some ⟨g, 0, none⟩)] w (RetX w g A n c d (FAC (L.map tok) d i)) := by
 have hlen := hr.len
 have hgw := hs.lt
 have E := Lib.hid (sy_start hs hr hm hp)
 obtain ⟨k, T, l, m⟩ := t
 have HO : Hid (FAC (L.map tok) d i = numR T i) := FAC_num (t := (k, T)) (by rw [List.getElem?_map, ht]; rfl) hk
 have dk : (k == 4) = true := by rw [beq_iff_eq]; exact hk
 have HST : Hid (sta (k, T) = true) := by show sta (k, T) = true; unfold sta; rw [decide_eq_true (show (k, T).1 = 4 from hk)]; rfl
 have hTs : T.size ≤ 6000 := Nat.le_trans hT (by omega)
 have hi : i ≤ 1000 := by have := (List.getElem?_eq_some_iff.1 ht).1; omega
 clear hk hT
 have HT := Lib.hid ht
 clear hs hr hm hlen
 go_enter Tryz.func99, Tryz.ntmps99
 go_wp2_with fail
 generalize hW : World.alloc w _ = W1 at E ⊢
 clear hW
 refine (pnext_some E.out.st E.out.rd (by have := E.out.pl; have := E.out.st.lt; omega) (by omega) ht).mono ?_; rintro e w10 ⟨rfl, hb⟩
 replace E := Lib.hid (SY.step E.out hb)
 clear hb ht
 unfold tk4
 go_wp2_with fail
 replace E := Lib.hid (SY.word (g1 := w10.heap.size) E.out k T l m (t := 54) rfl)
 obtain ⟨g4, hg4⟩ : ∃ g, w10.heap.size = g := ⟨_, rfl⟩
 rw [hg4] at E ⊢
 clear hg4
 generalize hV : World.alloc w10 _ = V10 at E ⊢
 clear hV
 refine (pstarts HST.out l m).mono ?_; rintro e w11 ⟨rfl, hb⟩
 replace E := Lib.hid (SY.step E.out hb)
 clear hb
 obtain ⟨t0, t1, t2, t3, tf0, tf1, tf2, tf3, tlt⟩ := SY.wat (k := k) (T := T) (p := l) (q := m) (g1 := g4) E (by simp)
 go_wp2_with fail
 clear t0 t1 t2 t3 tf0 tf1 tf2 tf3 tlt
 refine (pnumber E.out.st E.out.rd E.out.mx hp hi T hTs).mono ?_; rintro e w9 ⟨x9, k9, A9, n9, c9, i9, e9, rfl, hnum9, hst9, hkp9, hout⟩
 replace E := Lib.hid (SY.push (SY.call E.out hkp9 hst9) hnum9)
 clear hnum9 hst9 hkp9
 rw [← HO.out] at hout
 have HO2 := Lib.hid hout
 clear hout
 obtain ⟨r0, r1, r2, rf0, rf1, rf2, rlt⟩ := SY.az (g1 := w.heap.size) E (by simp)
 go_wp2_with fail
 clear r0 r1 r2 rf0 rf1 rf2 rlt
 have EF := Lib.hid (SY.pz E.out (g1 := w.heap.size) (by simp) (.bool (ngB x9)) (.slice A9 n9 c9) (.int .i64 (k9 : Int)))
 obtain ⟨r0, r1, r2, _, _, _, _⟩ := SY.ad x9 A9 n9 c9 k9 (g1 := w.heap.size) EF (by simp)
 exact bodyPost_ret (v := .tuple #[.agg #[.bool (ngB x9), .slice A9 n9 c9, .int .i64 (k9 : Int)], .int .i64 (e9 : Int)]) (by simp [results, Tryz.results99, go_sem, r0, r1, r2]) rfl ⟨x9, k9, A9, n9, c9, i9, e9, rfl, SY.got EF (by simp), EF.out.st, EF.out.kp, HO2.out⟩
theorem pfac_deep {w : World} {g B n c i d : Nat} {A : Option Addr} {L : List Tk4} (hs : StP w g A n c i d) (hr : RdK w B A n c L) (hm : MaxLen w) (hp : B ≤ g) (hn : n ≤ 400) (hd : d ≤ 64) {t : Tk4} (ht : L[i]? = some t) (hk : t.1 ≠ 4) (hst : sta (tok t) = true) (h64 : d = 64) : Calls Tryz.prog 99 #[.pointer (some ⟨g, 0, none⟩)] w (RetX w g A n c d (FAC (L.map tok) d i)) := by
 have hlen := hr.len
 have hgw := hs.lt
 have E := Lib.hid (sy_start hs hr hm hp)
 obtain ⟨k, T, l, m⟩ := t
 have HO : Hid (FAC (L.map tok) d i = .inl (6, i)) := FAC_deep (t := (k, T)) (by rw [List.getElem?_map, ht]; rfl) hk hst (by omega)
 have dk : (k == 4) = false := by rw [beq_eq_false_iff_ne]; exact hk
 have d64 : ((d : Int) == 64) = true := by rw [beq_iff_eq]; omega
 have HST : Hid (sta (k, T) = true) := hst
 clear hk hst h64
 have HT := Lib.hid ht
 clear hs hr hm hlen
 go_enter Tryz.func99, Tryz.ntmps99
 go_wp2_with fail
 generalize hW : World.alloc w _ = W1 at E ⊢
 clear hW
 refine (pnext_some E.out.st E.out.rd (by have := E.out.pl; have := E.out.st.lt; omega) (by omega) ht).mono ?_; rintro e w10 ⟨rfl, hb⟩
 replace E := Lib.hid (SY.step E.out hb)
 clear hb ht
 unfold tk4
 go_wp2_with fail
 replace E := Lib.hid (SY.word (g1 := w10.heap.size) E.out k T l m (t := 54) rfl)
 obtain ⟨g4, hg4⟩ : ∃ g, w10.heap.size = g := ⟨_, rfl⟩
 rw [hg4] at E ⊢
 clear hg4
 generalize hV : World.alloc w10 _ = V10 at E ⊢
 clear hV
 refine (pstarts HST.out l m).mono ?_; rintro e w11 ⟨rfl, hb⟩
 replace E := Lib.hid (SY.step E.out hb)
 clear hb
 obtain ⟨t0, t1, t2, t3, tf0, tf1, tf2, tf3, tlt⟩ := SY.wat (k := k) (T := T) (p := l) (q := m) (g1 := g4) E (by simp)
 obtain ⟨p0, p1, p2, pf0, pf1, pf2, plt⟩ := SY.facts E
 obtain ⟨r0, r1, r2, rf0, rf1, rf2, rlt⟩ := SY.az (g1 := w.heap.size) E (by simp)
 go_wp2_with fail
 clear t0 t1 t2 t3 tf0 tf1 tf2 tf3 tlt
 clear p0 p1 p2 pf0 pf1 pf2 plt
 clear r0 r1 r2 rf0 rf1 rf2 rlt
 have EF := Lib.hid (SY.pz E.out (g1 := w.heap.size) (by simp) (.bool false) (.slice none 0 0) (.int .i64 0))
 obtain ⟨r0, r1, r2, _, _, _, _⟩ := SY.az (g1 := w.heap.size) EF (by simp)
 exact bodyPost_ret (v := .tuple #[.agg #[.bool false, .slice none 0 0, .int .i64 0], .int .i64 6]) (by simp [results, Tryz.results99, go_sem, r0, r1, r2]) rfl ⟨0, 0, none, 0, 0, i, 6, rfl, num_zero _ _, EF.out.st, EF.out.kp, by rw [HO.out]; exact ⟨by omega, rfl, rfl, rfl, rfl⟩⟩
theorem pfac_go {w : World} {g B n c i d : Nat} {A : Option Addr} {L : List Tk4} (hs : StP w g A n c i d) (hr : RdK w B A n c L) (hm : MaxLen w) (hp : B ≤ g) (hn : n ≤ 400) (hd : d ≤ 64) {t : Tk4} (ht : L[i]? = some t) (hk : t.1 ≠ 4) (hst : sta (tok t) = true) (h64 : d < 64) {R : Rs} (hR : FAC (L.map tok) d i = R) (HC : ∀ w' : World, StP w' g A n c (i + 1) (d + 1) → RdK w' B A n c L → MaxLen w' → Calls Tryz.prog 117 #[.pointer (some ⟨g, 0, none⟩), .string t.2.1] w' (RetX w' g A n c (d + 1) R)) : Calls Tryz.prog 99 #[.pointer (some ⟨g, 0, none⟩)] w (RetX w g A n c d (FAC (L.map tok) d i)) := by
 have hlen := hr.len
 have hgw := hs.lt
 have E := Lib.hid (sy_start hs hr hm hp)
 obtain ⟨k, T, l, m⟩ := t
 have HO := Lib.hid hR
 have dk : (k == 4) = false := by rw [beq_eq_false_iff_ne]; exact hk
 have d64 : ((d : Int) == 64) = false := by rw [beq_eq_false_iff_ne]; omega
 have HST : Hid (sta (k, T) = true) := hst
 have hi : i ≤ 1000 := by have := (List.getElem?_eq_some_iff.1 ht).1; omega
 obtain ⟨i1, hi1⟩ : ∃ i1, i + 1 = i1 := ⟨_, rfl⟩
 obtain ⟨d1, hd1⟩ : ∃ d1, d + 1 = d1 := ⟨_, rfl⟩
 have ed : (d : Int) + 1 = (d1 : Int) := by omega
 have ed2 : (d1 : Int) - 1 = (d : Int) := by omega
 have hd11 : d1 ≤ 64 := by omega
 rw [hi1, hd1] at HC
 have HI := Lib.hid hi1
 clear hk hst hR hi1 hd1
 have HT := Lib.hid ht
 clear hs hr hm hlen
 go_enter Tryz.func99, Tryz.ntmps99
 go_wp2_with fail
 generalize hW : World.alloc w _ = W1 at E ⊢
 clear hW
 refine (pnext_some E.out.st E.out.rd (by have := E.out.pl; have := E.out.st.lt; omega) (by omega) ht).mono ?_; rintro e w10 ⟨rfl, hb⟩
 replace E := Lib.hid (SY.step E.out hb)
 clear hb ht
 unfold tk4
 go_wp2_with fail
 replace E := Lib.hid (SY.word (g1 := w10.heap.size) E.out k T l m (t := 54) rfl)
 obtain ⟨g4, hg4⟩ : ∃ g, w10.heap.size = g := ⟨_, rfl⟩
 rw [hg4] at E ⊢
 clear hg4
 generalize hV : World.alloc w10 _ = V10 at E ⊢
 clear hV
 refine (pstarts HST.out l m).mono ?_; rintro e w11 ⟨rfl, hb⟩
 replace E := Lib.hid (SY.step E.out hb)
 clear hb
 obtain ⟨t0, t1, t2, t3, tf0, tf1, tf2, tf3, tlt⟩ := SY.wat (k := k) (T := T) (p := l) (q := m) (g1 := g4) E (by simp)
 obtain ⟨p0, p1, p2, pf0, pf1, pf2, plt⟩ := SY.facts E
 go_wp2_with fail
 clear t0 t1 t2 t3 tf0 tf1 tf2 tf3 tlt
 clear p0 p1 p2 pf0 pf1 pf2 plt
 refine (ppass E.out.st (by omega) i1 HI.out).mono ?_; rintro e w12 ⟨rfl, rfl⟩
 replace E := Lib.hid (SY.set1 E.out i1)
 obtain ⟨t0, t1, t2, t3, tf0, tf1, tf2, tf3, tlt⟩ := SY.wat (k := k) (T := T) (p := l) (q := m) (g1 := g4) E (by simp)
 obtain ⟨p0, p1, p2, pf0, pf1, pf2, plt⟩ := SY.facts E
 have ng : g ≠ g4 := by
  have h0 := (SY.facts E).c0
  have h1 := (SY.wat (k := k) (T := T) (p := l) (q := m) (g1 := g4) E (by simp)).c0
  rintro rfl
  rw [h0] at h1; cases h1
 have ng2 : g4 ≠ g := fun e => ng e.symm
 generalize hV : World.setCell w11 _ _ = V11 at E p0 p1 p2 pf0 pf1 pf2 plt t0 t1 t2 t3 tf0 tf1 tf2 tf3 tlt ⊢
 clear hV
 go_wp2_with fail
 clear t0 t1 t2 t3 tf0 tf1 tf2 tf3 tlt
 clear p0 p1 p2 pf0 pf1 pf2 plt
 replace E := Lib.hid (SY.set2 E.out d1)
 generalize hV : World.setCell V11 _ _ = V12 at E ⊢
 clear hV
 refine (HC _ E.out.st E.out.rd E.out.mx).mono ?_; rintro e w9 ⟨x9, k9, A9, n9, c9, i9, e9, rfl, hnum9, hst9, hkp9, hout⟩
 replace E := Lib.hid (SY.push (SY.call E.out hkp9 hst9) hnum9)
 clear hnum9 hst9 hkp9
 have HO2 := Lib.hid hout
 clear hout
 have EL := Lib.hid (SY.lay (g1 := w9.heap.size) (x0 := .bool (ngB x9)) (x1 := .slice A9 n9 c9) (x2 := .int .i64 (k9 : Int)) (t := 28) E.out rfl)
 have n1 : g ≠ w9.heap.size := by have := E.out.st.lt; omega
 have n2 : w9.heap.size ≠ g := fun e => n1 e.symm
 have n3 : g ≠ w.heap.size := by omega
 have n4 : w.heap.size ≠ g := by omega
 clear E
 obtain ⟨p0, p1, p2, pf0, pf1, pf2, plt⟩ := SY.facts EL
 obtain ⟨q0, q1, q2, qf0, qf1, qf2, qlt⟩ := SY.ad x9 A9 n9 c9 k9 (g1 := w9.heap.size) EL (by simp)
 obtain ⟨r0, r1, r2, rf0, rf1, rf2, rlt⟩ := SY.az (g1 := w.heap.size) EL (by simp)
 go_wp2_with fail
 clear p0 p1 p2 pf0 pf1 pf2 plt
 clear q0 q1 q2 qf0 qf1 qf2 qlt
 clear r0 r1 r2 rf0 rf1 rf2 rlt
 have E := Lib.hid (SY.set2 EL.out d)
 have EF := Lib.hid (SY.pz E.out (g1 := w.heap.size) (by simp) (.bool (ngB x9)) (.slice A9 n9 c9) (.int .i64 (k9 : Int)))
 obtain ⟨r0, r1, r2, _, _, _, _⟩ := SY.ad x9 A9 n9 c9 k9 (g1 := w.heap.size) EF (by simp)
 exact bodyPost_ret (v := .tuple #[.agg #[.bool (ngB x9), .slice A9 n9 c9, .int .i64 (k9 : Int)], .int .i64 (e9 : Int)]) (by simp [results, Tryz.results99, go_sem, r0, r1, r2]) rfl ⟨x9, k9, A9, n9, c9, i9, e9, rfl, SY.got EF (by simp), EF.out.st, EF.out.kp, by rw [HO.out]; exact HO2.out⟩
theorem pfactor {L : List Tk4} {i : Nat} {G : Nat → Nat → Int → Nat → Prop} (hL : Siz (L.map tok) G) (hi : i ≤ L.length) (HS : i < L.length → SumP L (i + 1)) (HF : i < L.length → FacP L (i + 1)) : FacP L i := by
 intro w g B n c d A hs hr hm hp hn hd
 rcases Nat.lt_or_ge i L.length with h | h
 ·obtain ⟨t, ht⟩ : ∃ t, L[i]? = some t := ⟨_, List.getElem?_eq_getElem h⟩
  have hm1 : tok t ∈ L.map tok := List.mem_map_of_mem (List.mem_of_getElem? ht)
  have hg : (L.map tok)[i]? = some (tok t) := by rw [List.getElem?_map, ht]; rfl
  cases hst : sta (tok t) with
  | false => exact pfac_not hs hr hm hp hn hd ht hst
  | true =>
   by_cases hk : t.1 = 4
   ·exact pfac_num hs hr hm hp hn hd ht hk (hL.txt _ hm1)
   ·rcases Nat.lt_or_ge d 64 with h64 | h64
    ·have hk10 : t.1 = 10 := sta_ten hst hk
     cases ho : isg (tok t) 40 with
     | true =>
      have hT : bs9 t.2.1 = [40] := of_decide_eq_true (isg_txt (k := t.1) (T := t.2.1) ho hk10)
      exact pfac_go hs hr hm hp hn hd ht hk hst h64 (FAC_open hg hk hst h64 ho) fun w' hs' hr' hm' => pbeh_open hs' hr' hm' hp hn (by omega) (fun w2 hs2 hr2 hm2 => pshut hs2 hr2 hm2 hp hn (by omega) (HS h)) hT
     | false =>
      cases hb : isg (tok t) 45 with
      | true =>
       have hT : bs9 t.2.1 = [45] := of_decide_eq_true (isg_txt (k := t.1) (T := t.2.1) hb hk10)
       exact pfac_go hs hr hm hp hn hd ht hk hst h64 ((FAC_sign hg hk hst h64 ho).trans (by rw [hb])) fun w' hs' hr' hm' => pbeh_minus hs' hr' hm' hp hn (by omega) hL (HF h) hT
      | false =>
       have h43 : isg (tok t) 43 = true := by
        unfold sta at hst
        rw [hb, ho, decide_eq_false (show ¬ (tok t).1 = 4 from hk)] at hst
        simpa using hst
       have hT : bs9 t.2.1 = [43] := of_decide_eq_true (isg_txt (k := t.1) (T := t.2.1) h43 hk10)
       exact pfac_go hs hr hm hp hn hd ht hk hst h64 ((FAC_sign hg hk hst h64 ho).trans (by rw [hb])) fun w' hs' hr' hm' => pbeh_plus hs' hr' hm' hp hn (by omega) hL (HF h) hT
    ·exact pfac_deep hs hr hm hp hn hd ht hk hst (by omega)
 ·exact pfac_end hs hr hm hp hn hd (by have := hr.len; omega)
structure Chn (L : List Tok) (G : Nat → Nat → Int → Nat → Prop) (i : Nat) (P : Nat → Rs) (F : Int → Nat → Nat → Rs) (x y : Nat) : Prop where
 sx : x = 43 ∨ x = 45 ∨ x = 42 ∨ x = 47
 sy : y = 43 ∨ y = 45 ∨ y = 42 ∨ y = 47
 fin : ∀ {v k a}, isAt L a x = false → isAt L a y = false → F v k a = .inr (v, k, a)
 err : ∀ {v k a e}, isAt L a x = true ∨ isAt L a y = true → P (a + 1) = .inl e → F v k a = .inl e
 go : ∀ {v k a j t b z}, z = x ∨ z = y → isAt L a z = true → P (a + 1) = .inr (j, t, b) → (jnd z v k j t).2.2 = 0 → F v k a = F (jnd z v k j t).1 (jnd z v k j t).2.1 b
 bad : ∀ {v k a j t b z}, z = x ∨ z = y → isAt L a z = true → P (a + 1) = .inr (j, t, b) → 0 < (jnd z v k j t).2.2 → F v k a = .inl ((jnd z v k j t).2.2, a) ∧ (jnd z v k j t).1 = 0 ∧ (jnd z v k j t).2.1 = 0
 grt : ∀ {v k a j t b z}, z = x ∨ z = y → G i a v k → P (a + 1) = .inr (j, t, b) → (jnd z v k j t).2.2 = 0 → G i b (jnd z v k j t).1 (jnd z v k j t).2.1
 rng : ∀ {a b i k}, G a b i k → a < b ∧ b ≤ L.length
 fits : ∀ {a b i k}, G a b i k → (dg i.natAbs).length ≤ 900 ∧ k ≤ 4010
 pgrt : ∀ {a j t b}, P a = .inr (j, t, b) → G a b j t
 len : ∀ {v k a j t b}, G i a v k → P (a + 1) = .inr (j, t, b) → j ≠ 0 → (dg (quoQ v k j t).natAbs).length ≤ 1000
def ChI (G : Nat → Nat → Int → Nat → Prop) (i : Nat) (F : Int → Nat → Nat → Rs) (S : Rs) (v : Int) (k a e : Nat) : Prop :=
 (e = 0 ∧ S = F v k a ∧ G i a v k) ∨ (0 < e ∧ OutX v k a e S)
def msp (g n : Nat) (iv : Value) (w : World) : Nat := if intOf iv = 0 then n + 1 - (match w.cell? ⟨g, 1, none⟩ with | some v => (intOf v).toNat | none => 0) else 0
theorem msp_is {w : World} {g n c i d : Nat} {A : Option Addr} (h : StP w g A n c i d) (e : Nat) : msp g n (.int .i64 (e : Int)) w = if e = 0 then n + 1 - i else 0 := by
 have p := h.bx
 unfold msp
 rw [p.c1]
 show (if (e : Int) = 0 then n + 1 - ((i : Int)).toNat else 0) = _
 rw [Int.toNat_natCast]
 by_cases he : e = 0
 ·subst he; simp
 ·rw [if_neg he, if_neg (by omega)]
theorem pchain {w : World} {fn : Nat} {P : Nat → Rs} {F : Int → Nat → Nat → Rs} {G : Nat → Nat → Int → Nat → Prop} {S : Rs} {x y q : Nat} {s1 s2 : ByteArray} {g B n c i d : Nat} {A : Option Addr} {L : List Tk4} (hs : StP w g A n c i d) (hr : RdK w B A n c L) (hm : MaxLen w) (hp : B ≤ g) (hn : n ≤ 400) (hd : d ≤ 64) (hent : ∀ (args : Array Value) (W : World), (callFunc fn args).run Tryz.prog W = .ok (.enter fn args) W) (hi : i ≤ n) (CN : Chn (L.map tok) G i P F x y) (h1 : bs9 s1 = [x]) (h2 : bs9 s2 = [y]) (hsg : Sgn w q 2 2 [s1, s2]) (hS : (∀ e, P i = .inl e → S = .inl e) ∧ ∀ v k b, P i = .inr (v, k, b) → S = F v k b)
  (HP : ∀ a, i ≤ a → a ≤ n → ∀ w' : World, StP w' g A n c a d → RdK w' B A n c L → MaxLen w' → Calls Tryz.prog fn #[.pointer (some ⟨g, 0, none⟩)] w' (RetX w' g A n c d (P a))) :
  Calls Tryz.prog 74 #[.pointer (some ⟨g, 0, none⟩), .func (.func fn) #[.pointer (some ⟨g, 0, none⟩)] #[], .slice (some ⟨q, 0, none⟩) 2 2] w (RetX w g A n c d S) := by
 have hlen := hr.len
 have hgw := hs.lt
 have E := Lib.hid (sy_start hs hr hm hp)
 have hqg : q ≠ g := by
  have h0 := hsg.row 0 s1 rfl
  have h3 := hs.bx.c0
  rintro rfl
  rw [h0] at h3; cases h3
 have SG := Lib.hid hsg
 have HLEN := Lib.hid hlen
 have HLL : Hid ((L.map tok).length ≤ 400) := by show _ ≤ _; rw [List.length_map]; omega
 have HCN := Lib.hid CN
 have HSS := Lib.hid hS
 have H1 := Lib.hid h1
 have H2 := Lib.hid h2
 have HPP := Lib.hid HP
 clear hs hr hm hlen hsg CN hS h1 h2 HP
 go_enter Tryz.func74, Tryz.ntmps74
 go_wp2_with fail
 generalize hW : World.alloc w _ = W1 at E ⊢
 clear hW
 refine (HPP.out i (Nat.le_refl _) hi _ E.out.st E.out.rd E.out.mx).mono ?_; rintro e w9 ⟨x9, k9, A9, n9, c9, i9, e9, rfl, hnum9, hst9, hkp9, hout⟩
 replace E := Lib.hid (SY.push (SY.call E.out hkp9 hst9) hnum9)
 clear hnum9 hst9 hkp9
 have I0 : Hid (ChI G i F S x9 k9 i9 e9) := by
  show ChI _ _ _ _ _ _ _ _
  cases hP : P i with
  | inl r =>
   obtain ⟨z, b⟩ := r
   rw [hP] at hout
   exact .inr ⟨by have := hout.1; have := hout.2.1; omega, by rw [HSS.out.1 _ hP]; exact hout⟩
  | inr r =>
   obtain ⟨j, s, b⟩ := r
   rw [hP] at hout
   obtain ⟨rfl, rfl, rfl, rfl⟩ := hout
   exact .inl ⟨rfl, HSS.out.2 _ _ _ hP, HCN.out.pgrt hP⟩
 clear hout
 have n5 : w9.heap.size ≠ w.heap.size := by have := (SY.az (g1 := w.heap.size) E (by simp)).lt; omega
 go_wp2_with fail
 replace E := Lib.hid (SY.lay (g1 := w9.heap.size) (x0 := .bool (ngB x9)) (x1 := .slice A9 n9 c9) (x2 := .int .i64 (k9 : Int)) (t := 28) E.out rfl)
 obtain ⟨g8, hg8⟩ : ∃ g, w9.heap.size = g := ⟨_, rfl⟩
 rw [hg8] at E n5 ⊢
 clear hg8
 generalize hV : World.alloc w9 _ = V9 at E ⊢
 clear hV
 have n6 : w.heap.size ≠ g8 := fun e => n5 e.symm
 go_loopw [9] (fun iv wr => ∃ (e : Nat) (v : Int) (k : Nat) (A1 : Option Addr) (n1 c1 a : Nat), iv = .int .i64 (e : Int) ∧ SY w wr g B A n c L a d [(A1, n1, c1, v.natAbs)] [(g8, .bool (ngB v), .slice A1 n1 c1, .int .i64 (k : Int)), (w.heap.size, .bool false, .slice none 0 0, .int .i64 0)] [] ∧ ChI G i F S v k a e) (fun iv wr => msp g n iv wr)
 case atStart => exact ⟨e9, x9, k9, A9, n9, c9, i9, rfl, E.out, I0.out⟩
 case round =>
  obtain ⟨e, v, k, A1, n1, c1, a, rfl, hE, hI⟩ := hrel
  replace E := Lib.hid hE
  have S0 := Lib.hid hE.st
  have I := Lib.hid hI
  clear hE hI I0
  rcases Nat.eq_zero_or_pos e with h0 | h0
  ·subst h0
   have hI2 : S = F v k a ∧ G i a v k := by
    rcases I.out with ⟨_, q1, q2⟩ | ⟨q1, _⟩
    ·exact ⟨q1, q2⟩
    ·omega
   have HF := Lib.hid hI2.1
   have HG := Lib.hid hI2.2
   have ha : i ≤ a ∧ a ≤ n := by have h := HCN.out.rng hI2.2; rw [List.length_map] at h; have := HLEN.out; omega
   have hfit := HCN.out.fits hI2.2
   have hn1 : n1 ≤ 1000 := by have := (SY.got E (A1 := A1) (n1 := n1) (c1 := c1) (x := v.natAbs) (by simp)).len; omega
   have hk1 : k ≤ 4010 := hfit.2
   clear hI2 hfit
   obtain ⟨p0, p1, p2, pf0, pf1, pf2, plt⟩ := SY.facts E
   go_wp2_with fail
   clear p0 p1 p2 pf0 pf1 pf2 plt
   rcases Nat.lt_or_ge a n with han | han
   ·obtain ⟨t, ht⟩ : ∃ t, L[a]? = some t := ⟨_, List.getElem?_eq_getElem (by have := HLEN.out; omega)⟩
    obtain ⟨kk, T, l, m⟩ := t
    refine (pnext_some E.out.st E.out.rd (by have := E.out.pl; have := E.out.st.lt; omega) (by omega) ht).mono ?_; rintro e w10 ⟨rfl, hb⟩
    replace E := Lib.hid (SY.step E.out hb)
    clear hb
    unfold tk4
    go_wp2_with fail
    have SG2 := Lib.hid (SG.out.kp E.out.kp hqg)
    replace E := Lib.hid (SY.word (g1 := w10.heap.size) E.out kk T l m (t := 54) rfl)
    replace SG2 := Lib.hid (SG2.out.on ((Below.refl _ w10).alloc (Nat.le_refl _) (.cells #[.int .i64 kk, .string T, .int .i64 l, .int .i64 m] 54)))
    obtain ⟨g11, hg11⟩ : ∃ g, w10.heap.size = g := ⟨_, rfl⟩
    rw [hg11] at E ⊢
    clear hg11
    generalize hV : World.alloc w10 _ = V10 at E SG2 ⊢
    clear hV
    obtain ⟨bz, hbz⟩ : ∃ bz, isgs (kk, T) [s1, s2] = bz := ⟨_, rfl⟩
    have hbz2 : (isg (kk, T) x || isg (kk, T) y) = bz := by rw [← isgs_two _ H1.out H2.out]; exact hbz
    have hxy : ∀ c, isAt (L.map tok) a c = isg (kk, T) c := fun c => isAt_some ht
    refine (pissign SG2.out hbz l m).mono ?_; rintro e w11 ⟨rfl, hb⟩
    replace E := Lib.hid (SY.step E.out hb)
    clear hb hbz SG2
    cases bz with
    | false =>
     rw [Bool.or_eq_false_iff] at hbz2
     have HO : Hid (S = .inr (v, k, a)) := by
      show _ = _
      rw [HF.out]
      exact HCN.out.fin ((hxy _).trans hbz2.1) ((hxy _).trans hbz2.2)
     clear hbz2 hxy ht
     obtain ⟨q0, q1, q2, qf0, qf1, qf2, qlt⟩ := SY.ad v A1 n1 c1 k (g1 := g8) E (by simp)
     obtain ⟨r0, r1, r2, rf0, rf1, rf2, rlt⟩ := SY.az (g1 := w.heap.size) E (by simp)
     go_wp2_with fail
     clear q0 q1 q2 qf0 qf1 qf2 qlt
     clear r0 r1 r2 rf0 rf1 rf2 rlt
     have EF := Lib.hid (SY.pz E.out (g1 := w.heap.size) (by simp) (.bool (ngB v)) (.slice A1 n1 c1) (.int .i64 (k : Int)))
     obtain ⟨r0, r1, r2, _, _, _, _⟩ := SY.ad v A1 n1 c1 k (g1 := w.heap.size) EF (by simp)
     exact bodyPost_ret (v := .tuple #[.agg #[.bool (ngB v), .slice A1 n1 c1, .int .i64 (k : Int)], .int .i64 0]) (by simp [results, Tryz.results74, go_sem, r0, r1, r2]) rfl ⟨v, k, A1, n1, c1, a, 0, rfl, SY.got EF (by simp), EF.out.st, EF.out.kp, by rw [HO.out]; exact ⟨rfl, rfl, rfl, rfl⟩⟩
    | true =>
     obtain ⟨z, hz, hz1⟩ : ∃ z, (z = x ∨ z = y) ∧ isg (kk, T) z = true := by
      rcases Bool.or_eq_true_iff.1 hbz2 with h | h
      ·exact ⟨x, .inl rfl, h⟩
      ·exact ⟨y, .inr rfl, h⟩
     have hza : isAt (L.map tok) a z = true := (hxy z).trans hz1
     have hT : bs9 T = [z] := by
      rw [isg_is, Bool.and_eq_true] at hz1
      exact of_decide_eq_true hz1.2
     have hz4 : z = 43 ∨ z = 45 ∨ z = 42 ∨ z = 47 := by
      rcases hz with rfl | rfl
      ·exact HCN.out.sx
      ·exact HCN.out.sy
     have hxy2 : isAt (L.map tok) a x = true ∨ isAt (L.map tok) a y = true := by
      rcases hz with rfl | rfl
      ·exact .inl hza
      ·exact .inr hza
     have HZ := Lib.hid hz
     have HZA := Lib.hid hza
     have HT := Lib.hid hT
     have HZ4 := Lib.hid hz4
     have HXY := Lib.hid hxy2
     clear hbz2 hxy ht hz1 hz hza hT hz4 hxy2
     obtain ⟨a1, ha1⟩ : ∃ a1, a + 1 = a1 := ⟨_, rfl⟩
     have HA1 := Lib.hid ha1
     have ha1n : i ≤ a1 ∧ a1 ≤ n := by omega
     clear ha1
     go_wp2_with fail
     refine (ppass E.out.st (by omega) a1 HA1.out).mono ?_; rintro e w12 ⟨rfl, rfl⟩
     replace E := Lib.hid (SY.set1 E.out a1)
     generalize hV : World.setCell w11 _ _ = V11 at E ⊢
     clear hV
     go_wp2_with fail
     refine (HPP.out a1 ha1n.1 ha1n.2 _ E.out.st E.out.rd E.out.mx).mono ?_; rintro e w7 ⟨x7, k7, A7, n7, c7, i7, e7, rfl, hnum7, hst7, hkp7, hout⟩
     replace E := Lib.hid (SY.push (SY.call E.out hkp7 hst7) hnum7)
     clear hnum7 hst7 hkp7
     cases hP : P a1 with
     | inl r =>
      obtain ⟨z7, b7⟩ := r
      rw [hP] at hout
      obtain ⟨hz7, rfl, rfl, -, -⟩ := hout
      have dz : ((e7 : Int) != 0) = true := by rw [bne_iff_ne]; omega
      have HO : Hid (S = .inl (e7, i7)) := by
       show _ = _
       rw [HF.out]
       exact HCN.out.err HXY.out (by rw [HA1.out]; exact hP)
      clear hP
      have EL := Lib.hid (SY.lay (g1 := w7.heap.size) (x0 := .bool (ngB x7)) (x1 := .slice A7 n7 c7) (x2 := .int .i64 (k7 : Int)) (t := 28) E.out rfl)
      clear E
      obtain ⟨r0, r1, r2, rf0, rf1, rf2, rlt⟩ := SY.az (g1 := w.heap.size) EL (by simp)
      go_wp2_with fail
      clear r0 r1 r2 rf0 rf1 rf2 rlt
      have EF := Lib.hid (SY.pz EL.out (g1 := w.heap.size) (by simp) (.bool false) (.slice none 0 0) (.int .i64 0))
      obtain ⟨r0, r1, r2, _, _, _, _⟩ := SY.az (g1 := w.heap.size) EF (by simp)
      exact bodyPost_ret (v := .tuple #[.agg #[.bool false, .slice none 0 0, .int .i64 0], .int .i64 (e7 : Int)]) (by simp [results, Tryz.results74, go_sem, r0, r1, r2]) rfl ⟨0, 0, none, 0, 0, i7, e7, rfl, num_zero _ _, EF.out.st, EF.out.kp, by rw [HO.out]; exact ⟨hz7, rfl, rfl, rfl, rfl⟩⟩
     | inr r =>
      obtain ⟨j, s, b⟩ := r
      rw [hP] at hout
      obtain ⟨rfl, rfl, rfl, rfl⟩ := hout
      have hP2 : P (a + 1) = .inr (x7, k7, i7) := by rw [HA1.out]; exact hP
      have hg7 := HCN.out.pgrt hP
      have hfit7 := HCN.out.fits hg7
      have hn7 : n7 ≤ 1000 := by have := (SY.got E (A1 := A7) (n1 := n7) (c1 := c7) (x := x7.natAbs) (by simp)).len; omega
      have hk7 : k7 ≤ 4010 := hfit7.2
      have hai : a < i7 := by have := (HCN.out.rng hg7).1; have := HA1.out; omega
      have HQ : Hid (z = 47 → x7 ≠ 0 → (dg (quoQ v k x7 k7).natAbs).length ≤ 1000) := fun _ h => HCN.out.len HG.out hP2 h
      obtain ⟨r, hr⟩ : ∃ r, jnd z v k x7 k7 = r := ⟨_, rfl⟩
      have HGO : Hid (r.2.2 = 0 → S = F r.1 r.2.1 i7 ∧ G i i7 r.1 r.2.1) := fun h => by
       rw [← hr] at h ⊢
       exact ⟨HF.out.trans (HCN.out.go HZ.out HZA.out hP2 h), HCN.out.grt HZ.out HG.out hP2 h⟩
      have HBD : Hid (0 < r.2.2 → S = .inl (r.2.2, a) ∧ r.1 = 0 ∧ r.2.1 = 0) := fun h => by
       rw [← hr] at h ⊢
       have h2 := HCN.out.bad HZ.out HZA.out hP2 h
       exact ⟨HF.out.trans h2.1, h2.2⟩
      have HR := Lib.hid hr
      clear hP hP2 hg7 hfit7 hr
      have EL := Lib.hid (SY.lay (g1 := w7.heap.size) (x0 := .bool (ngB x7)) (x1 := .slice A7 n7 c7) (x2 := .int .i64 (k7 : Int)) (t := 28) E.out rfl)
      clear E
      obtain ⟨q0, q1, q2, qf0, qf1, qf2, qlt⟩ := SY.ad v A1 n1 c1 k (g1 := g8) EL (by simp)
      obtain ⟨t0, t1, t2, t3, tf0, tf1, tf2, tf3, tlt⟩ := SY.wat (k := kk) (T := T) (p := l) (q := m) (g1 := g11) EL (by simp)
      go_wp2_with fail
      clear q0 q1 q2 qf0 qf1 qf2 qlt
      clear t0 t1 t2 t3 tf0 tf1 tf2 tf3 tlt
      replace E := EL
      clear EL
      generalize hV : World.alloc w7 _ = V12 at E ⊢
      clear hV
      refine (pjoin (SY.got E (A1 := A1) (n1 := n1) (c1 := c1) (by simp)) (SY.got E (A1 := A7) (n1 := n7) (c1 := c7) (by simp)) hn1 hn7 hk1 hk7 HZ4.out HQ.out HT.out).mono ?_; rintro e w14 ⟨A2, n2, c2, rfl, hnum2, hb2⟩
      rw [HR.out] at hnum2 ⊢
      replace E := Lib.hid (SY.push (SY.step E.out hb2) hnum2)
      clear hnum2 hb2
      have hgg : g ≠ g8 := by
       have h0 := (SY.facts E).c0
       have h1 := (SY.ad v A1 n1 c1 k (g1 := g8) E (by simp)).c0
       rintro rfl
       rw [h0] at h1; cases h1
      have hgg2 : g8 ≠ g := fun e => hgg e.symm
      have EP := Lib.hid (SY.sub (l' := [(A2, n2, c2, r.1.natAbs)]) (bs' := [(g8, .bool (ngB r.1), .slice A2 n2 c2, .int .i64 (r.2.1 : Int)), (w.heap.size, .bool false, .slice none 0 0, .int .i64 0)]) (ts' := []) (SY.put E.out (g1 := g8) (b := ngB v) (A1 := A1) (n1 := n1) (c1 := c1) (k1 := (k : Int)) (by simp) [(w.heap.size, .bool false, .slice none 0 0, .int .i64 0)] (fun q hq => by simp at hq; subst hq; exact ⟨by simp, n5⟩) (.bool (ngB r.1)) (.slice A2 n2 c2) (.int .i64 (r.2.1 : Int))) (by simp) (by simp) (by simp))
      rcases Nat.eq_zero_or_pos r.2.2 with h0 | h0
      ·have hgo := HGO.out h0
       have dz : ((r.2.2 : Int) != 0) = false := by rw [h0]; rfl
       have J : Hid (ChI G i F S r.1 r.2.1 i7 r.2.2) := .inl ⟨h0, hgo⟩
       have HZR := Lib.hid h0
       clear hgo h0
       obtain ⟨q0, q1, q2, qf0, qf1, qf2, qlt⟩ := SY.ad v A1 n1 c1 k (g1 := g8) E (by simp)
       go_wp2_with fail
       clear q0 q1 q2 qf0 qf1 qf2 qlt
       go_roundw
       case rel => exact ⟨r.2.2, r.1, r.2.1, A2, n2, c2, i7, rfl, EP.out, J.out⟩
       case measure =>
        show msp g n (.int .i64 (r.2.2 : Int)) _ < msp g n (.int .i64 ((0 : Nat) : Int)) _
        rw [msp_is EP.out.st, msp_is S0.out, if_pos HZR.out, if_pos rfl]
        omega
      ·have hbd := HBD.out h0
       have dz : ((r.2.2 : Int) != 0) = true := by rw [bne_iff_ne]; omega
       have EQ := Lib.hid (SY.set1 EP.out a)
       have J : Hid (ChI G i F S r.1 r.2.1 a r.2.2) := .inr ⟨h0, by rw [hbd.1]; exact ⟨h0, rfl, rfl, hbd.2⟩⟩
       have HZR := Lib.hid h0
       clear hbd h0
       obtain ⟨q0, q1, q2, qf0, qf1, qf2, qlt⟩ := SY.ad v A1 n1 c1 k (g1 := g8) E (by simp)
       obtain ⟨p0, p1, p2, pf0, pf1, pf2, plt⟩ := SY.facts E
       go_wp2_with fail
       clear q0 q1 q2 qf0 qf1 qf2 qlt
       clear p0 p1 p2 pf0 pf1 pf2 plt
       go_roundw
       case rel => exact ⟨r.2.2, r.1, r.2.1, A2, n2, c2, a, rfl, EQ.out, J.out⟩
       case measure =>
        show msp g n (.int .i64 (r.2.2 : Int)) _ < msp g n (.int .i64 ((0 : Nat) : Int)) _
        rw [msp_is EQ.out.st, msp_is S0.out, if_neg (by have := HZR.out; omega), if_pos rfl]
        omega
   ·obtain rfl : a = n := by omega
    refine (pnext_end E.out.st rfl).mono ?_; rintro e w10 ⟨rfl, hb⟩
    replace E := Lib.hid (SY.step E.out hb)
    clear hb
    have HO : Hid (S = .inr (v, k, a)) := by
     show _ = _
     rw [HF.out]
     exact HCN.out.fin (isAt_none (by have := HLEN.out; omega)) (isAt_none (by have := HLEN.out; omega))
    have EL := Lib.hid (SY.word (g1 := w10.heap.size) E.out 0 ⟨#[]⟩ 0 0 (t := 54) rfl)
    clear E
    obtain ⟨q0, q1, q2, qf0, qf1, qf2, qlt⟩ := SY.ad v A1 n1 c1 k (g1 := g8) EL (by simp)
    obtain ⟨r0, r1, r2, rf0, rf1, rf2, rlt⟩ := SY.az (g1 := w.heap.size) EL (by simp)
    go_wp2_with fail
    clear q0 q1 q2 qf0 qf1 qf2 qlt
    clear r0 r1 r2 rf0 rf1 rf2 rlt
    have EF := Lib.hid (SY.pz EL.out (g1 := w.heap.size) (by simp) (.bool (ngB v)) (.slice A1 n1 c1) (.int .i64 (k : Int)))
    obtain ⟨r0, r1, r2, _, _, _, _⟩ := SY.ad v A1 n1 c1 k (g1 := w.heap.size) EF (by simp)
    exact bodyPost_ret (v := .tuple #[.agg #[.bool (ngB v), .slice A1 n1 c1, .int .i64 (k : Int)], .int .i64 0]) (by simp [results, Tryz.results74, go_sem, r0, r1, r2]) rfl ⟨v, k, A1, n1, c1, a, 0, rfl, SY.got EF (by simp), EF.out.st, EF.out.kp, by rw [HO.out]; exact ⟨rfl, rfl, rfl, rfl⟩⟩
  ·have HO : Hid (OutX v k a e S) := by
    rcases I.out with ⟨q1, _⟩ | ⟨_, q1⟩
    ·omega
    ·exact q1
   have dz : ((e : Int) == 0) = false := by rw [beq_eq_false_iff_ne]; omega
   obtain ⟨q0, q1, q2, qf0, qf1, qf2, qlt⟩ := SY.ad v A1 n1 c1 k (g1 := g8) E (by simp)
   obtain ⟨r0, r1, r2, rf0, rf1, rf2, rlt⟩ := SY.az (g1 := w.heap.size) E (by simp)
   go_wp2_with fail
   clear q0 q1 q2 qf0 qf1 qf2 qlt
   clear r0 r1 r2 rf0 rf1 rf2 rlt
   have EF := Lib.hid (SY.pz E.out (g1 := w.heap.size) (by simp) (.bool (ngB v)) (.slice A1 n1 c1) (.int .i64 (k : Int)))
   obtain ⟨r0, r1, r2, _, _, _, _⟩ := SY.ad v A1 n1 c1 k (g1 := w.heap.size) EF (by simp)
   exact bodyPost_ret (v := .tuple #[.agg #[.bool (ngB v), .slice A1 n1 c1, .int .i64 (k : Int)], .int .i64 (e : Int)]) (by simp [results, Tryz.results74, go_sem, r0, r1, r2]) rfl ⟨v, k, A1, n1, c1, a, e, rfl, SY.got EF (by simp), EF.out.st, EF.out.kp, HO.out⟩
structure C6 (w : World) (g : Nat) (x0 x1 x2 x3 x4 x5 : Value) : Prop where
 c0 : w.cell? ⟨g, 0, none⟩ = some x0
 c1 : w.cell? ⟨g, 1, none⟩ = some x1
 c2 : w.cell? ⟨g, 2, none⟩ = some x2
 c3 : w.cell? ⟨g, 3, none⟩ = some x3
 c4 : w.cell? ⟨g, 4, none⟩ = some x4
 c5 : w.cell? ⟨g, 5, none⟩ = some x5
 lt : g < w.heap.size
section
variable {P : Program} {ops : Array Oper} {Q : Exit → Act → World → Prop} {md : Region.Mode}
end
section
variable {o : Oper} {ρ : Operand → Value} {x y : Operand} {w : World}
end
def tk (u : Nat × List Nat) : Tok := ((u.1 : Int), st9 u.2)
theorem tks_tk (no : Int) {ts : List Wd} {us : List (Nat × List Nat)} (h : ts.map (fun t => (t.1, t.2.1)) = us) : (tks no ts).map tok = us.map tk := by
 rw [← h]
 unfold tks
 rw [List.map_map, List.map_map]
 rfl
section
variable {L X Y Q : List Tok} {x : Tok} {a b d c : Nat}
theorem dr_one (h : L.drop a = x :: Y) : L.drop (a + 1) = Y := by rw [← List.drop_drop, h]; rfl
theorem dr_app (h : L.drop a = X ++ Y) (hb : X.length = b) : L.drop (a + b) = Y := by rw [← List.drop_drop, h, ← hb, List.drop_left]
theorem dr_get (h : L.drop a = x :: Y) : L[a]? = some x := by
 have := congrArg (fun l => l[0]?) h
 rw [List.getElem?_drop] at this
 simpa using this
theorem dr_is (h : L.drop a = x :: Y) : isAt L a c = isg x c := by unfold isAt; rw [dr_get h]; rfl
end
theorem isg_tk (x c : Nat) (hx : x < 256) : isg (tk (10, [x])) c = decide (x = c) := by
 unfold isg tk
 have : bs9 (st9 [x]) = [x] := bs9_st9 (by intro y hy; rw [List.mem_singleton] at hy; omega)
 rw [this]
 by_cases h : x = c
 ·subst h; simp
 ·rw [decide_eq_false h]
  show (decide _ && decide ([x] = [c])) = false
  rw [decide_eq_false (p := [x] = [c]) (by intro e; exact h (List.cons.inj e).1), Bool.and_false]
theorem bod_lt (a s : Nat) : ∀ c ∈ bod a s, c < 256 := fun c hc => app_lt (txt_bytes _) (beh_lt _ _) c hc
theorem numV_bod (a s : Nat) : numV (st9 (bod a s)) = some ((a : Int), s) := by
 obtain ⟨h1, h2, h3, h4, h5⟩ := told (i := (a : Int)) (s := s) (x := txt (a / 10 ^ s)) (.inl rfl)
 have e0 : sgT (a : Int) = [] := by unfold sgT; rw [if_neg (by omega)]
 have ec : codes (st9 (bod a s)) = bod a s := bs9_st9 (bod_lt a s)
 rw [e0, List.nil_append, Int.natAbs_natCast] at h1 h2 h4
 rw [Int.natAbs_natCast] at h3 h5
 unfold numV
 rw [ec]
 have e1 : rst (bod a s) = bod a s := h1
 rw [if_pos ⟨h2, by rw [e1]; exact h3⟩, e1]
 exact congrArg some (Prod.ext h4 h5)
theorem tT_len (i : Int) (s : Nat) : ((tT i s).map tk).length = if i < 0 then 2 else 1 := by
 unfold tT; split <;> rfl
section
variable {L Q : List Tok} {a d : Nat}
theorem fac_val {i : Int} {s : Nat} (h : L.drop a = (tT i s).map tk ++ Q) (hd : d < 64) : FAC L d a = .inr (i, s, a + ((tT i s).map tk).length) := by
 rw [tT_len]
 unfold tT at h
 by_cases hi : i < 0
 ·rw [if_pos hi] at h ⊢
  have h0 : L.drop a = tk (10, [45]) :: (tk (4, bod i.natAbs s) :: Q) := h
  have h1 : L.drop (a + 1) = tk (4, bod i.natAbs s) :: Q := dr_one h0
  have hst : sta (tk (10, [45])) = true := by
   unfold sta
   rw [isg_tk 45 45 (by decide)]
   simp
  rw [FAC_sign (dr_get h0) (by decide) hst hd (by rw [isg_tk 45 40 (by decide)]; rfl), FAC_num (dr_get h1) rfl]
  have e : numV (tk (4, bod i.natAbs s)).2 = some ((i.natAbs : Int), s) := numV_bod _ _
  rw [e, isg_tk 45 45 (by decide)]
  show (Sum.inr (if decide (45 = 45) = true then -(i.natAbs : Int) else (i.natAbs : Int), s, a + 1 + 1) : Rs) = _
  rw [if_pos (by decide)]
  have : -(i.natAbs : Int) = i := by omega
  rw [this]
 ·rw [if_neg hi] at h ⊢
  have h0 : L.drop a = tk (4, bod i.natAbs s) :: Q := h
  rw [FAC_num (dr_get h0) rfl]
  have e : numV (tk (4, bod i.natAbs s)).2 = some ((i.natAbs : Int), s) := numV_bod _ _
  rw [e]
  have : (i.natAbs : Int) = i := by omega
  dsimp only
  rw [this]
end
section
variable {L : List Tok} {k : Nat}
end
def isW (L : List Tok) (a : Nat) (x : List Nat) : Bool := (L[a]?).any fun t => decide (t.1 = 10) && decide (bs9 t.2 = x)
def shr (L : List Tok) (a : Nat) : Nat := if a < L.length then 3 else 2
abbrev RA := (Nat × Nat) ⊕ (Int × Nat × ByteArray × Nat)
def amt (L : List Tok) (a : Nat) : RA := match SUM L 0 a with
 | .inl e => .inl e
 | .inr (i, k, b) => match L[b]? with
  | none => .inl (2, b)
  | some t => if t.1 = 3 then .inr (i, k, t.2, b + 1) else .inl (3, b)
structure Un where
 has : Bool
 i : Int
 k : Nat
 cur : ByteArray
def Un.zero : Un := ⟨false, 0, 0, ⟨#[]⟩⟩
def unt (L : List Tok) (a : Nat) : (Nat × Nat) ⊕ (Un × Nat) := match L[a]? with
 | none => .inr (Un.zero, a)
 | some t => if t.1 = 3 then .inr (⟨false, 0, 0, t.2⟩, a + 1) else if sta t = false then .inr (Un.zero, a) else match amt L a with
  | .inl e => .inl e
  | .inr (i, k, c, b) => .inr (⟨true, i, k, c⟩, b)
structure Co where
 tot : Bool
 un : Un
 day : Int × Int × Int
 lab : ByteArray
def Co.start (m : Bool) : Co := ⟨m, Un.zero, (0, 0, 0), ⟨#[]⟩⟩
def pday (s : ByteArray) : Int × Int × Int := if Dat.prOk s = true then (Dat.prY s, Dat.prM s, Dat.prD s) else (0, 0, 0)
def itm (L : List Tok) (c : Co) (a : Nat) : (Nat × Nat) ⊕ (Co × Nat) := match L[a]? with
 | none => .inl (2, a)
 | some t =>
  if t.1 = 1 ∧ c.day = (0, 0, 0) then .inr (⟨c.tot, c.un, pday t.2, c.lab⟩, a + 1)
  else if t.1 = 5 ∧ bs9 c.lab = [] ∧ bs9 t.2 ≠ [] then .inr (⟨c.tot, c.un, c.day, t.2⟩, a + 1)
  else if t.1 = 3 ∧ bs9 c.un.cur = [] then .inr (⟨c.tot, ⟨c.un.has, c.un.i, c.un.k, t.2⟩, c.day, c.lab⟩, a + 1)
  else if sta t = true ∧ bs9 c.un.cur = [] then (match amt L a with
   | .inl e => .inl e
   | .inr (i, k, x, b) => .inr (⟨c.tot, ⟨true, i, k, x⟩, c.day, c.lab⟩, b))
  else .inl (3, a)
def shutC (m : Bool) : List Nat := if m = true then [125, 125] else [125]
def opnC (m : Bool) : List Nat := if m = true then [123, 123] else [123]
def cstL (L : List Tok) : Nat → Co → Nat → (Nat × Nat) ⊕ (Co × Nat)
 | 0, _, a => .inl (2, a)
 | f + 1, c, a => match itm L c a with
  | .inl e => .inl e
  | .inr (c', b) => if isW L b (shutC c'.tot) = true then .inr (c', b + 1) else if isW L b [44] = true then cstL L f c' (b + 1) else .inl (shr L b, b)
def cstB (L : List Tok) (m : Bool) (a : Nat) : (Nat × Nat) ⊕ (Co × Nat) := if isW L a (shutC m) = true then .inr (Co.start m, a + 1) else cstL L (L.length + 1) (Co.start m) a
def cst (L : List Tok) (a : Nat) : (Nat × Nat) ⊕ (Option Co × Nat) :=
 if isW L a [123, 123] = true ∨ isW L a [123] = true then (match cstB L (isW L a [123, 123]) (a + 1) with
  | .inl e => .inl e
  | .inr (c, b) => .inr (some c, b))
 else .inr (none, a)
def prc (L : List Tok) (a : Nat) : (Nat × Nat) ⊕ (Option (Bool × Un) × Nat) :=
 if isW L a [64, 64] = true ∨ isW L a [64] = true then (match unt L (a + 1) with
  | .inl e => .inl e
  | .inr (u, b) => .inr (some (isW L a [64, 64], u), b))
 else .inr (none, a)
def amtT (i : Int) (k : Nat) (c : List Nat) : List Nat := txtD i k ++ 32 :: c
def untT (u : Un) : List Nat := if u.has = true then amtT u.i u.k (bs9 u.cur) else bs9 u.cur
def dayT (d : Int × Int × Int) : List Nat := bs9 (Dat.text8 d.1 d.2.1 d.2.2)
def prtT (c : Co) : List (List Nat) := (if c.un.has = true ∨ bs9 c.un.cur ≠ [] then [untT c.un] else []) ++ ((if dayT c.day ≠ [] then [dayT c.day] else []) ++ (if bs9 c.lab ≠ [] then [qt (bs9 c.lab)] else []))
def jnT : List (List Nat) → List Nat
 | [] => []
 | [x] => x
 | x :: y :: r => x ++ 44 :: 32 :: jnT (y :: r)
def cstT (c : Co) : List Nat := opnC c.tot ++ (jnT (prtT c) ++ shutC c.tot)
def prcT (p : Bool × Un) : List Nat := (if p.1 = true then [64, 64] else [64]) ++ (if untT p.2 ≠ [] then 32 :: untT p.2 else [])
def PrpL (L : List Tok) : Prop := ∀ t ∈ L, Prp t.1.toNat (bs9 t.2)
def Un.ok (u : Un) : Prop := (u.has = false ∧ u.i = 0 ∧ u.k = 0 ∧ bs9 u.cur = []) ∨ (u.has = false ∧ u.i = 0 ∧ u.k = 0 ∧ CurW (bs9 u.cur)) ∨ (u.has = true ∧ CurW (bs9 u.cur))
def Co.ok (c : Co) : Prop := c.un.ok ∧ (c.day = (0, 0, 0) ∨ Dat.ok8 c.day.1 c.day.2.1 c.day.2.2 = true)
theorem CurW.ne {y : List Nat} (h : CurW y) : y ≠ [] := by obtain ⟨⟨c, u, rfl, -⟩, -⟩ := h; intro e; cases e
theorem zero_ok : Un.zero.ok := .inl ⟨rfl, rfl, rfl, rfl⟩
section
variable {L : List Tok} (hL : PrpL L) {a b k : Nat} {i : Int} {x : ByteArray} {u : Un} {c c' : Co} {m : Bool}
include hL
theorem prp_cur {t : Tok} (h : L[a]? = some t) (h3 : t.1 = 3) : CurW (bs9 t.2) := by
 have := hL t (List.mem_of_getElem? h)
 rw [h3] at this
 exact this.cur
theorem prp_day {t : Tok} (h : L[a]? = some t) (h3 : t.1 = 1) : Dat.prOk t.2 = true := by
 have := hL t (List.mem_of_getElem? h)
 rw [h3] at this
 have h := this.day
 rw [d12_is] at h
 exact h
theorem amt_ok (h : amt L a = .inr (i, k, x, b)) : CurW (bs9 x) := by
 unfold amt at h
 split at h
 ·cases h
 ·split at h
  ·cases h
  ·rename_i ht
   split at h
   ·rename_i h3
    cases h
    exact prp_cur hL ht h3
   ·cases h
theorem unt_ok (h : unt L a = .inr (u, b)) : u.ok := by
 unfold unt at h
 split at h
 ·cases h; exact zero_ok
 ·rename_i ht
  split at h
  ·rename_i h3
   cases h
   exact .inr (.inl ⟨rfl, rfl, rfl, prp_cur hL ht h3⟩)
  ·split at h
   ·cases h; exact zero_ok
   ·split at h
    ·cases h
    ·rename_i ha
     cases h
     exact .inr (.inr ⟨rfl, amt_ok hL ha⟩)
theorem itm_ok (hc : c.ok) (h : itm L c a = .inr (c', b)) : c'.ok ∧ c'.tot = c.tot := by
 unfold itm at h
 split at h
 ·cases h
 ·rename_i t ht
  split at h
  ·rename_i h1
   cases h
   refine ⟨⟨hc.1, .inr ?_⟩, rfl⟩
   have h2 := prp_day hL ht h1.1
   show Dat.ok8 (pday t.2).1 (pday t.2).2.1 (pday t.2).2.2 = true
   unfold pday
   rw [if_pos h2]
   unfold Dat.prOk at h2
   rw [Bool.and_eq_true] at h2
   exact h2.2
  ·split at h
   ·cases h; exact ⟨⟨hc.1, hc.2⟩, rfl⟩
   ·split at h
    ·rename_i h3
     cases h
     refine ⟨⟨?_, hc.2⟩, rfl⟩
     rcases hc.1 with ⟨g1, g2, g3, -⟩ | ⟨-, -, -, g4⟩ | ⟨-, g4⟩
     ·exact .inr (.inl ⟨g1, g2, g3, prp_cur hL ht h3.1⟩)
     ·exact absurd h3.2 (CurW.ne g4)
     ·exact absurd h3.2 (CurW.ne g4)
    ·split at h
     ·split at h
      ·cases h
      ·rename_i ha
       cases h
       exact ⟨⟨.inr (.inr ⟨rfl, amt_ok hL ha⟩), hc.2⟩, rfl⟩
     ·cases h
theorem cstL_ok : ∀ (f : Nat) {c : Co} {a : Nat}, c.ok → cstL L f c a = .inr (c', b) → c'.ok ∧ c'.tot = c.tot := by
 intro f
 induction f with
 | zero => intro c a _ h; rw [cstL] at h; cases h
 | succ f ih =>
  intro c a hc h
  rw [cstL] at h
  split at h
  ·cases h
  ·rename_i hi
   obtain ⟨g1, g2⟩ := itm_ok hL hc hi
   split at h
   ·cases h; exact ⟨g1, g2⟩
   ·split at h
    ·obtain ⟨g3, g4⟩ := ih g1 h
     exact ⟨g3, g4.trans g2⟩
    ·cases h
theorem cst_ok (h : cst L a = .inr (some c, b)) : c.ok := by
 unfold cst at h
 split at h
 ·split at h
  ·cases h
  ·rename_i hb
   cases h
   unfold cstB at hb
   split at hb
   ·cases hb; exact ⟨zero_ok, .inl rfl⟩
   ·exact (cstL_ok hL _ ⟨zero_ok, .inl rfl⟩ hb).1
 ·cases h
theorem prc_ok (h : prc L a = .inr (some (m, u), b)) : u.ok := by
 unfold prc at h
 split at h
 ·split at h
  ·cases h
  ·rename_i hb
   cases h
   exact unt_ok hL hb
 ·cases h
end
def StQ (r : List Nat) : Prop := ∀ c, r.head? = some c → c = 44 ∨ c = 125 ∨ c = 32
theorem StQ.cur {r : List Nat} (h : StQ r) : StC r := fun c hc => by rcases h c hc with rfl | rfl | rfl <;> rfl
theorem StQ.dig {r : List Nat} (h : StQ r) : ∀ c, r.head? = some c → YtjonoedomgacaaaGreatDoor.dgB c = false := fun c hc => by rcases h c hc with rfl | rfl | rfl <;> rfl
theorem stq_nil : StQ [] := fun c hc => by cases hc
theorem bs9_nil {s : ByteArray} (h : bs9 s = []) : s = ⟨#[]⟩ := by rw [← st9_bs9 s, h]; rfl
def untW (u : Un) : List (Nat × List Nat) := (if u.has = true then tT u.i u.k else []) ++ [(3, bs9 u.cur)]
def Un.some (u : Un) : Prop := u.has = true ∨ bs9 u.cur ≠ []
instance (u : Un) : Decidable u.some := by unfold Un.some; infer_instance
theorem Un.none {u : Un} (h : u.ok) (hs : ¬ u.some) : u = Un.zero := by
 obtain ⟨a, i, k, s⟩ := u
 have h1 : bs9 s = [] := Decidable.byContradiction fun e => hs (.inr e)
 have h2 : a = false := by cases a with | false => rfl | true => exact absurd (.inl rfl) hs
 rcases h with ⟨-, g2, g3, -⟩ | ⟨-, g2, g3, -⟩ | ⟨g1, -⟩
 ·have e2 : i = 0 := g2
  have e3 : k = 0 := g3
  rw [h2, e2, e3, bs9_nil h1]; rfl
 ·have e2 : i = 0 := g2
  have e3 : k = 0 := g3
  rw [h2, e2, e3, bs9_nil h1]; rfl
 ·rw [h2] at g1; cases g1
theorem Un.curw {u : Un} (h : u.ok) (hs : u.some) : CurW (bs9 u.cur) := by
 rcases h with ⟨g1, -, -, g4⟩ | ⟨-, -, -, g4⟩ | ⟨-, g4⟩
 ·rcases hs with e | e
  ·rw [g1] at e; cases e
  ·exact absurd g4 e
 ·exact g4
 ·exact g4
theorem Un.plain {u : Un} (h : u.ok) (hs : u.has = false) : u = ⟨false, 0, 0, u.cur⟩ := by
 obtain ⟨a, i, k, s⟩ := u
 have h2 : a = false := hs
 rcases h with ⟨-, g2, g3, -⟩ | ⟨-, g2, g3, -⟩ | ⟨g1, -⟩
 ·have e2 : i = 0 := g2
  have e3 : k = 0 := g3
  rw [h2, e2, e3]
 ·have e2 : i = 0 := g2
  have e3 : k = 0 := g3
  rw [h2, e2, e3]
 ·rw [hs] at g1; cases g1
theorem wds_unt {u : Un} (hu : u.ok) (hs : u.some) {r : List Nat} {us : List (Nat × List Nat)} (hr : StC r) (h : Wds r us) : Wds (untT u ++ r) (untW u ++ us) := by
 have hc := Un.curw hu hs
 unfold untT untW
 split
 ·unfold amtT
  rw [List.append_assoc, List.append_assoc]
  exact wds_dec _ _ (fol_blank _) (wds_blank (wds_cur hc hr h))
 ·exact wds_cur hc hr h
theorem untT_none {u : Un} (hs : ¬ u.some) : untT u = [] := by
 unfold untT
 rw [if_neg (fun e => hs (.inl e))]
 exact Decidable.byContradiction fun e => hs (.inr e)
theorem dig_head : ∀ n, n < 10 → YtjonoedomgacaaaGreatDoor.dgB (Dat.dg8 n).toNat = true := by decide
theorem day_told {d : Int × Int × Int} (h : Dat.ok8 d.1 d.2.1 d.2.2 = true) : D12 (dayT d) = true ∧ (∃ c u, dayT d = c :: u ∧ YtjonoedomgacaaaGreatDoor.dgB c = true) ∧ pday (st9 (dayT d)) = d ∧ dayT d ≠ [] := by
 obtain ⟨h1, h2, h3, h4, h5⟩ := Dat.told_day h
 have hp : Dat.prOk (Dat.text8 d.1 d.2.1 d.2.2) = true := by unfold Dat.prOk; rw [h2, h3, h4, h5, h]; rfl
 have hl : (dayT d).length = 10 := by unfold dayT; rw [bs9_len]; exact h1
 refine ⟨by unfold dayT; rw [d12_is]; exact hp, ?_, ?_, by intro e; rw [e] at hl; cases hl⟩
 ·unfold dayT
  rw [Dat.text8_ok h]
  exact ⟨_, _, rfl, dig_head _ (Nat.mod_lt _ (by decide))⟩
 ·unfold dayT pday
  rw [st9_bs9, if_pos hp, h3, h4, h5]
theorem tk_ne {k : Nat} {x : List Nat} {m : Int} (h : (k : Int) ≠ m) : (tk (k, x)).1 ≠ m := h
section
variable {L : List Tok} {a b : Nat} {Q : List Tok} {u : Un} {c : Co}
theorem cur_end {x : List Nat} : ∀ cc, isg (tk (3, x)) cc = false := fun cc => by
 unfold isg
 rw [decide_eq_false (tk_ne (by decide))]; rfl
theorem amt_told {i : Int} {k : Nat} {x : List Nat} (h : L.drop a = (tT i k).map tk ++ (tk (3, x) :: Q)) : amt L a = .inr (i, k, st9 x, a + (tT i k).length + 1) := by
 have f0 := fac_val (d := 0) h (by decide)
 have h1 := dr_app h rfl
 rw [List.length_map] at f0 h1
 have i1 : ∀ cc, isAt L (a + (tT i k).length) cc = false := fun cc => by rw [dr_is h1]; exact cur_end cc
 have P0 : PRO L 0 a = .inr (i, k, a + (tT i k).length) := by rw [PRO_go f0, PROL_end (i1 _) (i1 _)]
 have S0 : SUM L 0 a = .inr (i, k, a + (tT i k).length) := by rw [SUM_go P0, SUML_end (i1 _) (i1 _)]
 unfold amt
 rw [S0]
 dsimp only
 rw [dr_get h1]
 rfl
theorem sta_tT {i : Int} {k : Nat} {Q : List Tok} (h : L.drop a = (tT i k).map tk ++ Q) : ∃ t, L[a]? = some t ∧ t.1 ≠ 1 ∧ t.1 ≠ 5 ∧ t.1 ≠ 3 ∧ sta t = true := by
 unfold tT at h
 split at h
 ·have h0 : L.drop a = tk (10, [45]) :: (tk (4, bod i.natAbs k) :: Q) := h
  refine ⟨_, dr_get h0, tk_ne (by decide), tk_ne (by decide), tk_ne (by decide), ?_⟩
  unfold sta
  rw [isg_tk 45 45 (by decide)]
  simp
 ·have h0 : L.drop a = tk (4, bod i.natAbs k) :: Q := h
  exact ⟨_, dr_get h0, tk_ne (by decide), tk_ne (by decide), tk_ne (by decide), rfl⟩
theorem unt_told (hu : u.ok) (hs : u.some) (h : L.drop a = (untW u).map tk ++ Q) : unt L a = .inr (u, a + (untW u).length) := by
 unfold untW at h ⊢
 cases hb : u.has with
 | true =>
  rw [hb, if_pos rfl, List.map_append, List.append_assoc] at h
  obtain ⟨t, g0, g1, g2, g3, g4⟩ := sta_tT h
  have g5 := amt_told h
  unfold unt
  rw [g0]
  dsimp only
  rw [if_neg g3, g4, if_neg (by decide), g5]
  dsimp only
  rw [if_pos rfl, st9_bs9, List.length_append, ← hb]
  rfl
 | false =>
  rw [hb, if_neg (by decide)] at h
  have h0 : L.drop a = tk (3, bs9 u.cur) :: Q := h
  unfold unt
  rw [dr_get h0]
  dsimp only
  rw [if_pos (show (tk (3, bs9 u.cur)).1 = 3 from rfl), if_neg (by decide)]
  have e := Un.plain hu hb
  show (Sum.inr ((⟨false, 0, 0, st9 (bs9 u.cur)⟩ : Un), a + 1) : (Nat × Nat) ⊕ (Un × Nat)) = _
  rw [st9_bs9, ← e]
  rfl
theorem itm_unt (hu : u.ok) (hs : u.some) (hc : c.un = Un.zero) (h : L.drop a = (untW u).map tk ++ Q) : itm L c a = .inr (⟨c.tot, u, c.day, c.lab⟩, a + (untW u).length) := by
 have hz : bs9 c.un.cur = [] := by rw [hc]; rfl
 unfold untW at h ⊢
 cases hb : u.has with
 | true =>
  rw [hb, if_pos rfl, List.map_append, List.append_assoc] at h
  obtain ⟨t, g0, g1, g2, g3, g4⟩ := sta_tT h
  have g5 := amt_told h
  unfold itm
  rw [g0]
  dsimp only
  rw [if_neg (fun e => g1 e.1), if_neg (fun e => g2 e.1), if_neg (fun e => g3 e.1), if_pos ⟨g4, hz⟩, g5]
  dsimp only
  rw [if_pos rfl, st9_bs9, List.length_append, ← hb]
  rfl
 | false =>
  rw [hb, if_neg (by decide)] at h
  have h0 : L.drop a = tk (3, bs9 u.cur) :: Q := h
  unfold itm
  rw [dr_get h0]
  dsimp only
  rw [if_neg (fun e => absurd e.1 (tk_ne (by decide))), if_neg (fun e => absurd e.1 (tk_ne (by decide))), if_pos ⟨rfl, hz⟩, if_neg (by decide)]
  have e := Un.plain hu hb
  rw [hc]
  show (Sum.inr ((⟨c.tot, ⟨false, 0, 0, st9 (bs9 u.cur)⟩, c.day, c.lab⟩ : Co), a + 1) : (Nat × Nat) ⊕ (Co × Nat)) = _
  rw [st9_bs9, ← e]
  rfl
theorem itm_day {d : Int × Int × Int} (hd : Dat.ok8 d.1 d.2.1 d.2.2 = true) (hc : c.day = (0, 0, 0)) (h : L.drop a = tk (1, dayT d) :: Q) : itm L c a = .inr (⟨c.tot, c.un, d, c.lab⟩, a + 1) := by
 unfold itm
 rw [dr_get h]
 dsimp only
 rw [if_pos ⟨rfl, hc⟩]
 show (Sum.inr ((⟨c.tot, c.un, pday (st9 (dayT d)), c.lab⟩ : Co), a + 1) : (Nat × Nat) ⊕ (Co × Nat)) = _
 rw [(day_told hd).2.2.1]
theorem itm_lab {s : ByteArray} (hl : bs9 s ≠ []) (hc : bs9 c.lab = []) (h : L.drop a = tk (5, bs9 s) :: Q) : itm L c a = .inr (⟨c.tot, c.un, c.day, s⟩, a + 1) := by
 unfold itm
 rw [dr_get h]
 dsimp only
 have e : bs9 (tk (5, bs9 s)).2 = bs9 s := by show bs9 (st9 (bs9 s)) = _; rw [st9_bs9]
 rw [if_neg (fun e => absurd e.1 (tk_ne (by decide))), if_pos ⟨rfl, hc, by rw [e]; exact hl⟩]
 show (Sum.inr ((⟨c.tot, c.un, c.day, st9 (bs9 s)⟩ : Co), a + 1) : (Nat × Nat) ⊕ (Co × Nat)) = _
 rw [st9_bs9]
end
structure Pt where
 t : List Nat
 w : List (Nat × List Nat)
 f : Co → Co
def jnP : List Pt → List (Nat × List Nat)
 | [] => []
 | [p] => p.w
 | p :: q :: r => p.w ++ (10, [44]) :: jnP (q :: r)
def Pt.told (p : Pt) : Prop := (∀ {r : List Nat} {us : List (Nat × List Nat)}, StQ r → Wds r us → Wds (p.t ++ r) (p.w ++ us)) ∧ ∃ c u, p.t = c :: u ∧ c ≠ 123 ∧ c ≠ 32
theorem wds_parts : ∀ (P : List Pt) {r : List Nat} {us : List (Nat × List Nat)}, (∀ p ∈ P, p.told) → StQ r → Wds r us → Wds (jnT (P.map (·.t)) ++ r) (jnP P ++ us)
 | [], _, _, _, _, h => h
 | [p], _, _, hp, hr, h => (hp p List.mem_cons_self).1 hr h
 | p :: q :: l, r, us, hp, hr, h => by
  have ih := wds_parts (q :: l) (fun x hx => hp x (List.mem_cons_of_mem _ hx)) hr h
  show Wds ((p.t ++ 44 :: 32 :: jnT ((q :: l).map (·.t))) ++ r) ((p.w ++ (10, [44]) :: jnP (q :: l)) ++ us)
  rw [List.append_assoc, List.append_assoc]
  refine (hp p List.mem_cons_self).1 (fun c hc => .inl (Option.some.inj hc).symm) ?_
  exact wds_one (.inl rfl) (by intro e; cases e) (wds_blank ih)
theorem jn_head : ∀ {P : List Pt} {r : List Nat}, (∀ p ∈ P, p.told) → r.head? ≠ some 123 → (jnT (P.map (·.t)) ++ r).head? ≠ some 123
 | [], _, _, hr => hr
 | [p], r, hp, _ => by
  obtain ⟨c, u, e, h1, -⟩ := (hp p List.mem_cons_self).2
  show (p.t ++ r).head? ≠ _
  rw [e]
  intro e2; exact h1 (Option.some.inj e2)
 | p :: q :: l, r, hp, _ => by
  obtain ⟨c, u, e, h1, -⟩ := (hp p List.mem_cons_self).2
  show ((p.t ++ 44 :: 32 :: jnT ((q :: l).map (·.t))) ++ r).head? ≠ _
  rw [e]
  intro e2; exact h1 (Option.some.inj e2)
def Rds : List Pt → Co → Prop
 | [], _ => True
 | p :: r, c => (∀ {L : List Tok} {a : Nat} {Q : List Tok}, L.drop a = p.w.map tk ++ Q → itm L c a = .inr (p.f c, a + p.w.length)) ∧ (p.f c).tot = c.tot ∧ Rds r (p.f c)
theorem isW_tk {L Q : List Tok} {a : Nat} {x : List Nat} (h : L.drop a = tk (10, x) :: Q) (hx : ∀ c ∈ x, c < 256) (y : List Nat) : isW L a y = decide (x = y) := by
 unfold isW
 rw [dr_get h]
 have : bs9 (tk (10, x)).2 = x := bs9_st9 hx
 show (decide ((tk (10, x)).1 = 10) && decide (bs9 (tk (10, x)).2 = y)) = _
 rw [this, decide_eq_true (show (tk (10, x)).1 = 10 from rfl), Bool.true_and]
theorem isW_kind {L Q : List Tok} {a k : Nat} {x : List Nat} (h : L.drop a = tk (k, x) :: Q) (hk : (k : Int) ≠ 10) (y : List Nat) : isW L a y = false := by
 unfold isW
 rw [dr_get h]
 show (decide ((tk (k, x)).1 = 10) && _) = _
 rw [decide_eq_false (tk_ne hk)]; rfl
theorem shut_lt (m : Bool) : ∀ c ∈ shutC m, c < 256 := by cases m <;> decide
theorem opn_lt (m : Bool) : ∀ c ∈ opnC m, c < 256 := by cases m <;> decide
theorem len_of {L : List Tok} {a : Nat} {t : Tok} (h : L.drop a = [t]) : a + 1 = L.length := by
 have := congrArg List.length h
 rw [List.length_drop, List.length_singleton] at this
 omega
theorem cstL_told {L : List Tok} : ∀ (P : List Pt) {f : Nat} {c : Co} {a : Nat}, P ≠ [] → P.length ≤ f → Rds P c → L.drop a = (jnP P).map tk ++ [tk (10, shutC c.tot)] → cstL L f c a = .inr (P.foldl (fun e p => p.f e) c, L.length)
 | [], _, _, _, h, _, _, _ => absurd rfl h
 | [p], f, c, a, _, hf, hr, h => by
  obtain ⟨g1, g2, -⟩ := hr
  obtain ⟨f, rfl⟩ : ∃ m, f = m + 1 := ⟨f - 1, by simp at hf; omega⟩
  have h1 := g1 h
  have h2 : L.drop (a + p.w.length) = [tk (10, shutC c.tot)] := dr_app h (List.length_map tk)
  rw [cstL, h1]
  dsimp only
  rw [g2, if_pos (by rw [isW_tk h2 (shut_lt _)]; exact decide_eq_true rfl), len_of h2]
  rfl
 | p :: q :: l, f, c, a, _, hf, hr, h => by
  obtain ⟨g1, g2, g3⟩ := hr
  obtain ⟨f, rfl⟩ : ∃ m, f = m + 1 := ⟨f - 1, by simp at hf; omega⟩
  have h0 : L.drop a = p.w.map tk ++ (tk (10, [44]) :: ((jnP (q :: l)).map tk ++ [tk (10, shutC c.tot)])) := by
   rw [h]
   show (p.w ++ (10, [44]) :: jnP (q :: l)).map tk ++ _ = _
   rw [List.map_append, List.map_cons, List.append_assoc]; rfl
  have h1 := g1 h0
  have h2 := dr_app h0 (List.length_map tk)
  have h3 := dr_one h2
  have h4 : ∀ y, isW L (a + p.w.length) y = decide ([44] = y) := isW_tk h2 (by decide)
  rw [cstL, h1]
  dsimp only
  rw [h4, if_neg (by unfold shutC; split <;> decide), h4, if_pos (by decide)]
  rw [← g2] at h3
  exact cstL_told (q :: l) (by intro e; cases e) (by simp at hf ⊢; omega) g3 h3
def parts (c : Co) : List Pt := (if c.un.has = true ∨ bs9 c.un.cur ≠ [] then [⟨untT c.un, untW c.un, fun e => ⟨e.tot, c.un, e.day, e.lab⟩⟩] else []) ++
 ((if dayT c.day ≠ [] then [⟨dayT c.day, [(1, dayT c.day)], fun e => ⟨e.tot, e.un, c.day, e.lab⟩⟩] else []) ++
 (if bs9 c.lab ≠ [] then [⟨qt (bs9 c.lab), [(5, bs9 c.lab)], fun e => ⟨e.tot, e.un, e.day, c.lab⟩⟩] else []))
theorem parts_text (c : Co) : prtT c = (parts c).map (·.t) := by
 unfold prtT parts
 split <;> split <;> split <;> rfl
theorem day_none : dayT (0, 0, 0) = [] := by kernel_rfl
section
variable {c : Co} (hc : c.ok)
include hc
theorem day_ok (h : dayT c.day ≠ []) : Dat.ok8 c.day.1 c.day.2.1 c.day.2.2 = true := by
 rcases hc.2 with e | e
 ·rw [e] at h; exact absurd day_none h
 ·exact e
theorem day_no (h : ¬ dayT c.day ≠ []) : c.day = (0, 0, 0) := by
 rcases hc.2 with e | e
 ·exact e
 ·exact absurd (day_told e).2.2.2 h
theorem parts_told : ∀ p ∈ parts c, p.told := by
 intro p hp
 unfold parts at hp
 rcases List.mem_append.1 hp with hp | hp
 ·split at hp
  ·rename_i hs
   obtain rfl := List.mem_singleton.1 hp
   refine ⟨fun hr h => wds_unt hc.1 hs hr.cur h, ?_⟩
   show ∃ d u, untT c.un = d :: u ∧ _
   unfold untT
   split
   ·unfold amtT
    rw [txtD_bod]
    obtain ⟨d, t, e, hd⟩ := bod_head c.un.i.natAbs c.un.k
    have hd2 : 48 ≤ d ∧ d ≤ 57 := by unfold YtjonoedomgacaaaGreatDoor.dgB at hd; simpa using hd
    unfold sgT
    split
    ·exact ⟨_, _, rfl, by decide, by decide⟩
    ·rw [e]; exact ⟨_, _, rfl, by omega, by omega⟩
   ·obtain ⟨⟨d, u, e, hd⟩, -⟩ := Un.curw hc.1 hs
    have := up_of hd
    exact ⟨d, u, e, by omega, by omega⟩
  ·cases hp
 ·rcases List.mem_append.1 hp with hp | hp
  ·split at hp
   ·rename_i hd
    obtain rfl := List.mem_singleton.1 hp
    obtain ⟨g1, ⟨d, u, g2, g3⟩, -, -⟩ := day_told (day_ok hc hd)
    have hd2 : 48 ≤ d ∧ d ≤ 57 := by unfold YtjonoedomgacaaaGreatDoor.dgB at g3; simpa using g3
    exact ⟨fun hr h => wds_day g1 ⟨d, u, g2, g3⟩ hr.dig h, d, u, g2, by omega, by omega⟩
   ·cases hp
  ·split at hp
   ·obtain rfl := List.mem_singleton.1 hp
    exact ⟨fun hr h => wds_text _ h, 34, _, rfl, by decide, by decide⟩
   ·cases hp
theorem parts_read : Rds (parts c) (Co.start c.tot) ∧ (parts c).foldl (fun e p => p.f e) (Co.start c.tot) = c := by
 obtain ⟨m, u, d, s⟩ := c
 have hU : ∀ {e : Co}, u.some → e.un = Un.zero → ∀ {L : List Tok} {a : Nat} {Q : List Tok}, L.drop a = (untW u).map tk ++ Q → itm L e a = .inr (⟨e.tot, u, e.day, e.lab⟩, a + (untW u).length) := fun {e} hs he {L a Q} h => itm_unt hc.1 hs he h
 have hD : ∀ {e : Co}, dayT d ≠ [] → e.day = (0, 0, 0) → ∀ {L : List Tok} {a : Nat} {Q : List Tok}, L.drop a = [(1, dayT d)].map tk ++ Q → itm L e a = .inr (⟨e.tot, e.un, d, e.lab⟩, a + [(1, dayT d)].length) := fun {e} hs he {L a Q} h => itm_day (day_ok hc hs) he h
 have hS : ∀ {e : Co}, bs9 s ≠ [] → bs9 e.lab = [] → ∀ {L : List Tok} {a : Nat} {Q : List Tok}, L.drop a = [(5, bs9 s)].map tk ++ Q → itm L e a = .inr (⟨e.tot, e.un, e.day, s⟩, a + [(5, bs9 s)].length) := fun {e} hs he {L a Q} h => itm_lab hs he h
 have zU : ¬ u.some → u = Un.zero := Un.none hc.1
 have zD : ¬ dayT d ≠ [] → d = (0, 0, 0) := day_no hc
 have zS : ¬ bs9 s ≠ [] → s = ⟨#[]⟩ := fun h => bs9_nil (Decidable.byContradiction h)
 unfold parts
 by_cases h1 : u.some <;> by_cases h2 : dayT d ≠ [] <;> by_cases h3 : bs9 s ≠ []
 all_goals (have h1' := h1; unfold Un.some at h1')
 all_goals first | rw [if_pos h1'] | rw [if_neg h1']
 all_goals first | rw [if_pos h2] | rw [if_neg h2]
 all_goals first | rw [if_pos h3] | rw [if_neg h3]
 ·exact ⟨⟨hU h1 rfl, rfl, hD h2 rfl, rfl, hS h3 rfl, rfl, trivial⟩, rfl⟩
 ·exact ⟨⟨hU h1 rfl, rfl, hD h2 rfl, rfl, trivial⟩, by rw [zS h3]; rfl⟩
 ·exact ⟨⟨hU h1 rfl, rfl, hS h3 rfl, rfl, trivial⟩, by rw [zD h2]; rfl⟩
 ·exact ⟨⟨hU h1 rfl, rfl, trivial⟩, by rw [zD h2, zS h3]; rfl⟩
 ·exact ⟨⟨hD h2 rfl, rfl, hS h3 rfl, rfl, trivial⟩, by rw [zU h1]; rfl⟩
 ·exact ⟨⟨hD h2 rfl, rfl, trivial⟩, by rw [zU h1, zS h3]; rfl⟩
 ·exact ⟨⟨hS h3 rfl, rfl, trivial⟩, by rw [zU h1, zD h2]; rfl⟩
 ·exact ⟨trivial, by rw [zU h1, zD h2, zS h3]; rfl⟩
def cstW (c : Co) : List (Nat × List Nat) := (10, opnC c.tot) :: (jnP (parts c) ++ [(10, shutC c.tot)])
omit hc in
theorem wds_shut (m : Bool) : Wds (shutC m) [(10, shutC m)] := by
 cases m
 ·exact wds_one (.inr (.inr (.inl rfl))) (by intro e; cases e) wds_nil
 ·exact wds_two (.inr (.inl rfl)) wds_nil
omit hc in
theorem stq_shut (m : Bool) : StQ (shutC m) := fun c h => by cases m <;> exact .inr (.inl (Option.some.inj h).symm)
theorem wds_cst : Wds (cstT c) (cstW c) := by
 have hp := parts_told hc
 have h := wds_parts (parts c) hp (stq_shut c.tot) (wds_shut c.tot)
 have hh := jn_head (r := shutC c.tot) hp (by unfold shutC; split <;> (intro e; cases e))
 unfold cstT cstW
 rw [parts_text]
 generalize jnT ((parts c).map (·.t)) ++ shutC c.tot = r at h hh
 unfold opnC
 split
 ·exact wds_two (.inl rfl) h
 ·exact wds_one (.inr (.inl rfl)) hh h
theorem cst_told {L : List Tok} (hL : L = (cstW c).map tk) : cst L 0 = .inr (some c, L.length) := by
 have h0 : L.drop 0 = tk (10, opnC c.tot) :: ((jnP (parts c)).map tk ++ [tk (10, shutC c.tot)]) := by
  rw [hL, List.drop_zero]; unfold cstW; rw [List.map_cons, List.map_append]; rfl
 have h1 := dr_one h0
 have i0 : ∀ y, isW L 0 y = decide (opnC c.tot = y) := isW_tk h0 (opn_lt _)
 obtain ⟨r1, r2⟩ := parts_read hc
 have hm : isW L 0 [123, 123] = c.tot := by rw [i0]; unfold opnC; cases c.tot <;> rfl
 have ho : isW L 0 [123, 123] = true ∨ isW L 0 [123] = true := by rw [i0, i0]; unfold opnC; cases c.tot <;> decide
 have hB : cstB L c.tot (0 + 1) = .inr (c, L.length) := by
  unfold cstB
  by_cases hP : parts c = []
  ·rw [hP] at h1 r2
   have h2 : L.drop (0 + 1) = [tk (10, shutC c.tot)] := h1
   rw [if_pos (by rw [isW_tk h2 (shut_lt _)]; exact decide_eq_true rfl), len_of h2, show Co.start c.tot = c from r2]
  ·have hn : isW L (0 + 1) (shutC c.tot) = false := by
    have hpw : ∀ p ∈ parts c, ∃ x r, p.w = x :: r ∧ ((x.1 : Int) ≠ 10 ∨ x = (10, [45])) := by
     intro p hp
     unfold parts at hp
     rcases List.mem_append.1 hp with hp | hp
     ·split at hp
      ·obtain rfl := List.mem_singleton.1 hp
       show ∃ x r, untW c.un = x :: r ∧ _
       unfold untW tT
       split
       ·split
        ·exact ⟨_, _, rfl, .inr rfl⟩
        ·exact ⟨_, _, rfl, .inl (by show ((4 : Nat) : Int) ≠ 10; decide)⟩
       ·exact ⟨_, _, rfl, .inl (by show ((3 : Nat) : Int) ≠ 10; decide)⟩
      ·cases hp
     ·rcases List.mem_append.1 hp with hp | hp
      ·split at hp
       ·obtain rfl := List.mem_singleton.1 hp
        exact ⟨_, _, rfl, .inl (by show ((1 : Nat) : Int) ≠ 10; decide)⟩
       ·cases hp
      ·split at hp
       ·obtain rfl := List.mem_singleton.1 hp
        exact ⟨_, _, rfl, .inl (by show ((5 : Nat) : Int) ≠ 10; decide)⟩
       ·cases hp
    obtain ⟨p, l, hp⟩ := List.exists_cons_of_ne_nil hP
    obtain ⟨x, r, e, hx⟩ := hpw p (by rw [hp]; exact List.mem_cons_self)
    have hj : ∃ z, jnP (parts c) = x :: z := by
     rw [hp]
     cases l with
     | nil => exact ⟨r, e⟩
     | cons q l => exact ⟨r ++ (10, [44]) :: jnP (q :: l), by show p.w ++ _ = _; rw [e]; rfl⟩
    obtain ⟨z, hj⟩ := hj
    rw [hj] at h1
    have h2 : L.drop (0 + 1) = tk x :: (z.map tk ++ [tk (10, shutC c.tot)]) := h1
    rcases hx with hx | hx
    ·exact isW_kind (k := x.1) (x := x.2) h2 hx _
    ·rw [hx] at h2
     rw [isW_tk h2 (by decide)]
     unfold shutC; split <;> rfl
   rw [if_neg (by rw [hn]; decide)]
   have hl : (parts c).length ≤ L.length + 1 := by
    have : (parts c).length ≤ 3 := by unfold parts; split <;> split <;> split <;> simp
    have h3 := congrArg List.length h1
    rw [List.length_drop, List.length_append, List.length_singleton] at h3
    have h4 : 1 ≤ L.length := by rw [hL]; unfold cstW; simp
    have h5 : (parts c).length ≤ (jnP (parts c)).length + 1 := by
     generalize parts c = P
     induction P with
     | nil => exact Nat.zero_le _
     | cons p l ih =>
      cases l with
      | nil => simp
      | cons q l =>
       show (q :: l).length + 1 ≤ (p.w ++ (10, [44]) :: jnP (q :: l)).length + 1
       rw [List.length_append]
       have e1 : ((10, [44]) :: jnP (q :: l)).length = (jnP (q :: l)).length + 1 := rfl
       omega
    rw [List.length_map] at h3
    omega
   have := cstL_told (parts c) hP hl r1 h1
   rw [r2] at this
   exact this
 unfold cst
 rw [if_pos ho, hm, hB]
end
def unW (u : Un) : List (Nat × List Nat) := if u.has = true ∨ bs9 u.cur ≠ [] then untW u else []
theorem wds_units {u : Un} (hu : u.ok) : Wds (untT u) (unW u) := by
 unfold unW
 split
 ·rename_i hs
  have := wds_unt hu hs stq_nil.cur wds_nil
  rw [List.append_nil, List.append_nil] at this
  exact this
 ·rename_i hs
  rw [untT_none hs]; exact wds_nil
theorem unt_back {u : Un} (hu : u.ok) {L : List Tok} {a : Nat} (h : L.drop a = (unW u).map tk) (ha : a ≤ L.length) : unt L a = .inr (u, L.length) := by
 have hl := congrArg List.length h
 rw [List.length_drop, List.length_map] at hl
 unfold unW at h hl
 split at h
 ·rename_i hs
  rw [if_pos hs] at hl
  rw [unt_told hu hs (Q := []) (by rw [h, List.append_nil]), ← hl]
  congr 2; omega
 ·rename_i hs
  rw [if_neg hs] at hl
  have h1 : L[a]? = none := List.getElem?_eq_none (List.drop_eq_nil_iff.1 h)
  unfold unt
  rw [h1, Un.none hu hs]
  have h2 : L.length - a = 0 := hl
  have h3 : a = L.length := by omega
  rw [h3]
def prcW (p : Bool × Un) : List (Nat × List Nat) := (10, if p.1 = true then [64, 64] else [64]) :: unW p.2
theorem wds_prc {p : Bool × Un} (hu : p.2.ok) : Wds (prcT p) (prcW p) := by
 have h := wds_units hu
 have h2 : Wds (if untT p.2 ≠ [] then 32 :: untT p.2 else []) (unW p.2) := by
  split
  ·exact wds_blank h
  ·rename_i e
   rw [Decidable.byContradiction e] at h; exact h
 have hh : (if untT p.2 ≠ [] then 32 :: untT p.2 else []).head? ≠ some 64 := by
  split
  ·intro e; cases e
  ·intro e; cases e
 unfold prcT prcW
 generalize (if untT p.2 ≠ [] then 32 :: untT p.2 else []) = r at h2 hh
 split
 ·exact wds_two (.inr (.inr rfl)) h2
 ·exact wds_one (.inr (.inr (.inr rfl))) hh h2
theorem prc_told {p : Bool × Un} (hu : p.2.ok) {L : List Tok} (hL : L = (prcW p).map tk) : prc L 0 = .inr (some p, L.length) := by
 have h0 : L.drop 0 = tk (10, if p.1 = true then [64, 64] else [64]) :: (unW p.2).map tk := by rw [hL]; rfl
 have h1 := dr_one h0
 have i0 : ∀ y, isW L 0 y = decide ((if p.1 = true then [64, 64] else [64]) = y) := isW_tk h0 (by split <;> decide)
 have hm : isW L 0 [64, 64] = p.1 := by rw [i0]; cases p.1 <;> rfl
 have ho : isW L 0 [64, 64] = true ∨ isW L 0 [64] = true := by rw [i0, i0]; cases p.1 <;> decide
 unfold prc
 rw [if_pos ho, unt_back hu h1 (by rw [hL]; unfold prcW; simp), hm]
theorem txtD_len {i : Int} {k K : Nat} (h : Sz i k K) : (txtD i k).length ≤ K + k + 3 := by
 have h1 : nd (i.natAbs / 10 ^ k) ≤ K + 1 := by
  refine nd_le_of_lt K ?_
  unfold Sz at h
  rw [Nat.pow_add] at h
  refine Nat.lt_of_lt_of_le ((Nat.div_lt_iff_lt_mul (Nat.pow_pos (by omega))).2 h) (Nat.pow_le_pow_right (by omega) (by omega))
 have h2 : (beh k i.natAbs).length ≤ k + 1 := by
  unfold beh
  split
  ·exact Nat.zero_le _
  ·rw [List.length_cons, pad_len]; exact Nat.le_refl _
 have h3 : (sgT i).length ≤ 1 := by unfold sgT; split <;> decide
 have h4 : (txt (i.natAbs / 10 ^ k)).length = nd (i.natAbs / 10 ^ k) := rfl
 rw [txtD_bod, List.length_append]
 unfold bod
 rw [List.length_append]
 omega
def FewL (L : List Tok) : Prop := L.length ≤ 60 ∧ ∀ t ∈ L, t.2.size ≤ 30
def UnS (u : Un) : Prop := Sz u.i u.k 1220 ∧ u.k ≤ 1220 ∧ (bs9 u.cur).length ≤ 30
def CoS (c : Co) : Prop := UnS c.un ∧ (bs9 c.lab).length ≤ 30
theorem sz_zero (k : Nat) : Sz 0 0 k := Nat.pow_pos (by omega)
theorem zero_small : UnS Un.zero := ⟨sz_zero _, Nat.zero_le _, Nat.zero_le _⟩
section
variable {L : List Tok} (hL : FewL L) {a b k : Nat} {i : Int} {x : ByteArray} {u : Un} {c c' : Co} {m : Bool}
include hL
theorem few_get {t : Tok} (h : L[a]? = some t) : (bs9 t.2).length ≤ 30 := by rw [bs9_len]; exact hL.2 t (List.mem_of_getElem? h)
theorem amt_small (h : amt L a = .inr (i, k, x, b)) : UnS ⟨true, i, k, x⟩ := by
 unfold amt at h
 split at h
 ·cases h
 ·rename_i hs
  split at h
  ·cases h
  ·rename_i ht
   split at h
   ·cases h
    obtain ⟨g1, g2, g3, g4⟩ := SUM_grt hL.2 hs
    have := hL.1
    exact ⟨g3.mono (by omega), by show k ≤ _; omega, few_get hL ht⟩
   ·cases h
theorem unt_small (h : unt L a = .inr (u, b)) : UnS u := by
 unfold unt at h
 split at h
 ·cases h; exact zero_small
 ·rename_i ht
  split at h
  ·cases h
   exact ⟨sz_zero _, Nat.zero_le _, few_get hL ht⟩
  ·split at h
   ·cases h; exact zero_small
   ·split at h
    ·cases h
    ·rename_i ha
     cases h
     exact amt_small hL ha
theorem itm_small (hc : CoS c) (h : itm L c a = .inr (c', b)) : CoS c' := by
 unfold itm at h
 split at h
 ·cases h
 ·rename_i t ht
  split at h
  ·cases h; exact ⟨hc.1, hc.2⟩
  ·split at h
   ·cases h; exact ⟨hc.1, few_get hL ht⟩
   ·split at h
    ·cases h; exact ⟨⟨hc.1.1, hc.1.2.1, few_get hL ht⟩, hc.2⟩
    ·split at h
     ·split at h
      ·cases h
      ·rename_i ha
       cases h
       exact ⟨amt_small hL ha, hc.2⟩
     ·cases h
theorem cstL_small : ∀ (f : Nat) {c : Co} {a : Nat}, CoS c → cstL L f c a = .inr (c', b) → CoS c' := by
 intro f
 induction f with
 | zero => intro c a _ h; rw [cstL] at h; cases h
 | succ f ih =>
  intro c a hc h
  rw [cstL] at h
  split at h
  ·cases h
  ·rename_i hi
   have g := itm_small hL hc hi
   split at h
   ·cases h; exact g
   ·split at h
    ·exact ih g h
    ·cases h
theorem cst_small (h : cst L a = .inr (some c, b)) : CoS c := by
 unfold cst at h
 split at h
 ·split at h
  ·cases h
  ·rename_i hb
   cases h
   unfold cstB at hb
   split at hb
   ·cases hb; exact ⟨zero_small, Nat.zero_le _⟩
   ·exact cstL_small hL _ ⟨zero_small, Nat.zero_le _⟩ hb
 ·cases h
theorem prc_small (h : prc L a = .inr (some (m, u), b)) : UnS u := by
 unfold prc at h
 split at h
 ·split at h
  ·cases h
  ·rename_i hb
   cases h
   exact unt_small hL hb
 ·cases h
end
theorem untT_len {u : Un} (h : UnS u) : (untT u).length ≤ 2474 := by
 have h1 := txtD_len h.1
 have h2 := h.2.1
 have h3 := h.2.2
 unfold untT
 split
 ·unfold amtT
  rw [List.length_append, List.length_cons]
  omega
 ·omega
theorem dayT_len (d : Int × Int × Int) : (dayT d).length ≤ 10 := by
 cases h : Dat.ok8 d.1 d.2.1 d.2.2 with
 | true => unfold dayT; rw [bs9_len, (Dat.told_day h).1]; exact Nat.le_refl _
 | false => unfold dayT; rw [Dat.text8_not h]; exact Nat.zero_le _
def tlT (c : Co) : List Nat := match (if dayT c.day ≠ [] then [dayT c.day] else []) ++ (if bs9 c.lab ≠ [] then [qt (bs9 c.lab)] else []) with
 | [] => []
 | p :: q => 44 :: 32 :: jnT (p :: q)
theorem jn_cons (x : List Nat) (l : List (List Nat)) : jnT (x :: l) = x ++ (match l with | [] => [] | p :: q => 44 :: 32 :: jnT (p :: q)) := by
 cases l with
 | nil => exact (List.append_nil _).symm
 | cons p q => rfl
theorem two_len {a b : List Nat} {P Q : Prop} [Decidable P] [Decidable Q] {m n : Nat} (ha : a.length ≤ m) (hb : b.length ≤ n) : (jnT ((if P then [a] else []) ++ (if Q then [b] else []))).length ≤ m + n + 2 := by
 split <;> split <;> simp [jnT] <;> omega
theorem tl_len {c : Co} (h : CoS c) : (tlT c).length ≤ 76 ∧ (jnT ((if dayT c.day ≠ [] then [dayT c.day] else []) ++ (if bs9 c.lab ≠ [] then [qt (bs9 c.lab)] else []))).length ≤ 74 := by
 have h1 := dayT_len c.day
 have h2 := qt_len (bs9 c.lab)
 have h3 := h.2
 have h4 := two_len (a := dayT c.day) (b := qt (bs9 c.lab)) (P := dayT c.day ≠ []) (Q := bs9 c.lab ≠ []) (m := 10) (n := 62) h1 (by omega)
 refine ⟨?_, h4⟩
 unfold tlT
 generalize (if dayT c.day ≠ [] then [dayT c.day] else []) ++ (if bs9 c.lab ≠ [] then [qt (bs9 c.lab)] else []) = l at h4
 cases l with
 | nil => exact Nat.zero_le _
 | cons p q => simp only [List.length_cons]; omega
theorem shut_len (m : Bool) : (shutC m).length ≤ 2 := by cases m <;> decide
theorem opn_len (m : Bool) : (opnC m).length ≤ 2 := by cases m <;> decide
theorem cstT_eq (c : Co) : cstT c = if c.un.has = true ∨ bs9 c.un.cur ≠ [] then opnC c.tot ++ (untT c.un ++ (tlT c ++ shutC c.tot)) else opnC c.tot ++ (jnT ((if dayT c.day ≠ [] then [dayT c.day] else []) ++ (if bs9 c.lab ≠ [] then [qt (bs9 c.lab)] else [])) ++ shutC c.tot) := by
 unfold cstT prtT
 split
 ·rw [List.singleton_append, jn_cons, List.append_assoc]; rfl
 ·rfl
theorem cstT_len {c : Co} (h : CoS c) : (cstT c).length ≤ 2554 := by
 have h1 := untT_len h.1
 have h2 := tl_len h
 have h3 := shut_len c.tot
 have h4 := opn_len c.tot
 rw [cstT_eq]
 split
 ·rw [List.length_append, List.length_append, List.length_append]; omega
 ·rw [List.length_append, List.length_append]; omega
theorem prcT_len {p : Bool × Un} (h : UnS p.2) : (prcT p).length ≤ 2477 := by
 have h1 := untT_len h
 unfold prcT
 rw [List.length_append]
 split <;> split <;> simp <;> omega
theorem wgt_unt {u : Un} (h : UnS u) {r : List Nat} (hu : u.has = true) : Wgt (untT u ++ r) (2465 + 12 * ((bs9 u.cur).length + r.length)) := by
 have h1 := txtD_len h.1
 have h2 := h.2.1
 have h3 := wgt_any _ (Nat.le_refl (bs9 u.cur ++ r).length)
 rw [List.length_append] at h3
 unfold untT
 rw [if_pos hu]
 unfold amtT
 rw [List.append_assoc]
 exact (wgt_dec u.i u.k (fol_blank _) (wgt_blank h3)).mono (by omega)
theorem untT_head {u : Un} (hu : u.has = true) (r : List Nat) {c : Nat} (hc : 58 ≤ c) : (untT u ++ r).head? ≠ some c := by
 unfold untT
 rw [if_pos hu]
 unfold amtT
 rw [txtD_bod]
 obtain ⟨d, t, e, hd⟩ := bod_head u.i.natAbs u.k
 have hd2 : 48 ≤ d ∧ d ≤ 57 := by unfold YtjonoedomgacaaaGreatDoor.dgB at hd; simpa using hd
 unfold sgT
 split
 ·intro e2
  have := Option.some.inj e2
  omega
 ·rw [e]
  intro e2
  have : d = c := Option.some.inj e2
  omega
theorem wgt_units {u : Un} (h : UnS u) : Wgt (untT u) 4010 := by
 have h3 := h.2.2
 cases hu : u.has with
 | true =>
  have := wgt_unt h (r := []) hu
  rw [List.append_nil] at this
  exact this.mono (by rw [List.length_nil]; omega)
 | false =>
  unfold untT
  rw [if_neg (by rw [hu]; decide)]
  exact (wgt_any _ (Nat.le_refl _)).mono (by omega)
theorem wgt_cst {c : Co} (h : CoS c) : Wgt (cstT c) 4010 := by
 have h1 := tl_len h
 have h2 := shut_len c.tot
 have h3 := opn_len c.tot
 have h4 := h.1.2.2
 rw [cstT_eq]
 cases hu : c.un.has with
 | true =>
  rw [if_pos (.inl rfl)]
  have hw := wgt_unt h.1 (r := tlT c ++ shutC c.tot) hu
  have hh := untT_head hu (tlT c ++ shutC c.tot) (c := 123) (by decide)
  rw [List.length_append] at hw
  unfold opnC
  split
  ·exact (wgt_two (.inl rfl) hw).mono (by omega)
  ·exact (wgt_one (.inr (.inl rfl)) (.inr hh) hw).mono (by omega)
 | false =>
  have e : untT c.un = bs9 c.un.cur := by unfold untT; rw [if_neg (by rw [hu]; decide)]
  split
  ·refine (wgt_any _ (Nat.le_refl _)).mono ?_
   rw [List.length_append, List.length_append, List.length_append, e]; omega
  ·refine (wgt_any _ (Nat.le_refl _)).mono ?_
   rw [List.length_append, List.length_append]; omega
theorem wgt_prc {p : Bool × Un} (h : UnS p.2) : Wgt (prcT p) 4010 := by
 have h3 := h.2.2
 have h4 : Wgt (if untT p.2 ≠ [] then 32 :: untT p.2 else []) 3900 := by
  split
  ·refine wgt_blank ?_
   cases hu : p.2.has with
   | true =>
    have := wgt_unt h (r := []) hu
    rw [List.append_nil] at this
    exact this.mono (by rw [List.length_nil]; omega)
   | false =>
    unfold untT
    rw [if_neg (by rw [hu]; decide)]
    exact (wgt_any _ (Nat.le_refl _)).mono (by omega)
  ·exact wgt_nil.mono (by omega)
 have hh : (if untT p.2 ≠ [] then 32 :: untT p.2 else []).head? ≠ some 64 := by
  split
  ·intro e; cases e
  ·intro e; cases e
 unfold prcT
 generalize (if untT p.2 ≠ [] then 32 :: untT p.2 else []) = r at h4 hh
 split
 ·exact (wgt_two (.inr rfl) h4).mono (by omega)
 ·exact (wgt_one (.inr (.inr rfl)) (.inr hh) h4).mono (by omega)
theorem ws_tks (no : Int) (ts : List Wd) (hb : ∀ t ∈ ts, ∀ c ∈ t.2.1, c < 256) : Wgh.ws ((tks no ts).map tok) ((tks no ts).map tok).length = wgt ts := by
 unfold Wgh.ws wgt
 rw [List.take_length]
 induction ts with
 | nil => rfl
 | cons t r ih =>
  have h1 := ih fun t ht => hb t (List.mem_cons_of_mem _ ht)
  show (st9 t.2.1).size + 11 + _ = t.2.1.length + 11 + _
  rw [← bs9_len, bs9_st9 (hb t List.mem_cons_self)]
  exact congrArg (fun z => t.2.1.length + 11 + z) h1
def RetB (w : World) (P : Prop) (e : Ending) (w' : World) : Prop := ∃ b : Bool, e = .returned (.bool b) ∧ (b = true → P) ∧ Below w.heap.size w w'
theorem few14 {w : World} {B n c : Nat} {A : Option Addr} {L : List Tk4} (hr : RdK w B A n c L) (hB : B ≤ w.heap.size) : Calls Tryz.prog 4 #[.slice A n c] w (RetB w (FewL (L.map tok))) := by
 have hn9 : n ≤ 9223372036854775807 := by
  rcases Nat.eq_zero_or_pos n with e | e
  ·omega
  ·have h2 := hr.len
   obtain ⟨b, o, -, q1, q2, -⟩ := hr.at_ (k := 0) (List.getElem?_eq_getElem (l := L) (by omega))
   exact Nat.le_trans q1 q2
 have hlen := hr.len
 have HL := Lib.hid hlen
 have R1 := Lib.hid hr
 clear hr hlen
 go_enter Tryz.func4, Tryz.ntmps4
 go_wp2_with fail
 go_loopw [7] (fun iv wr => ∃ i : Nat, iv = .int .i64 i ∧ i ≤ n ∧ (∀ j t, j < i → L[j]? = some t → t.2.1.size ≤ 30) ∧ Below w.heap.size w wr) (fun iv _ => n - (intOf iv).toNat)
 case atStart => exact ⟨0, rfl, Nat.zero_le _, fun j t h => absurd h (Nat.not_lt_zero _), Below.refl _ _⟩
 case round =>
  obtain ⟨i, rfl, hi, hj, hb⟩ := hrel
  have HB := Lib.hid hb
  have HJ := Lib.hid hj
  clear hb hj
  rcases Nat.lt_or_ge i n with hlt | hge
  ·obtain ⟨t, ht⟩ : ∃ t, L[i]? = some t := ⟨_, List.getElem?_eq_getElem (by have := HL.out; omega)⟩
   have HT := Lib.hid ht
   obtain ⟨p1, o1, rfl, q1, q2, q3, q4, a0, a1, a2, a3⟩ := (R1.out.on hB HB.out).at_ ht
   obtain ⟨k1, T, l1, c1⟩ := t
   clear q2 ht
   rcases Nat.lt_or_ge 30 T.size with hT | hT
   ·have d : decide ((30 : Int) < (T.size : Int)) = true := decide_eq_true (by omega)
    go_wp2_with fail
    go_ret
    exact ⟨false, rfl, fun h => (by cases h), HB.out.trans (((Below.refl _ _).alloc (Nat.le_refl _) _).mono HB.out.size)⟩
   ·have d : decide ((30 : Int) < (T.size : Int)) = false := decide_eq_false (by omega)
    go_wp2_with fail
    go_roundw
    case rel =>
     refine ⟨i + 1, by go_num, by omega, fun j t hj ht => ?_, HB.out.trans (((Below.refl _ _).alloc (Nat.le_refl _) _).mono HB.out.size)⟩
     rcases Nat.lt_or_ge j i with h | h
     ·exact HJ.out j t h ht
     ·obtain rfl : j = i := by omega
      rw [HT.out] at ht
      cases ht; exact hT
    case measure => simp [intOf] <;> omega
  ·go_wp2_with fail
   go_ret
   refine ⟨_, rfl, fun h => ⟨?_, fun x hx => ?_⟩, HB.out⟩
   ·have h1 := of_decide_eq_true h
    rw [List.length_map]
    have := HL.out
    omega
   ·obtain ⟨t, ht, rfl⟩ := List.mem_map.1 hx
    obtain ⟨j, hj, e⟩ := List.getElem_of_mem ht
    exact HJ.out j t (by have := HL.out; omega) (by rw [List.getElem?_eq_getElem hj, e])
def wdsOf (l : List Nat) : List Wd := match WD D12 N12 0 l with
 | .inl _ => []
 | .inr ts => ts
theorem rdK_nil (w : World) (B : Nat) : RdK w B none 0 0 [] := ⟨rfl, Nat.le_refl _, Nat.zero_le _, .inl rfl⟩
def RetL (w : World) (ts : List Wd) (e : Ending) (w' : World) : Prop := ∃ A n c, e = .returned (.slice A n c) ∧ RdK w' w'.heap.size A n c (tks 1 ts) ∧ Below w.heap.size w w'
theorem words14 {w : World} {s : ByteArray} (hok : Ok12 w) (hs : s.size ≤ 6000) : Calls Tryz.prog 7 #[.string s] w (RetL w (wdsOf (bs9 s))) := by
 have HW := Lib.hid (lexwords_is okw12 dayok12 (fun _ h hs => lexunquote_is h hs _) o08 o07 o11 1 s hs w hok)
 clear hok
 unfold wdsOf
 cases h : WD D12 N12 0 (bs9 s) with
 | inl p =>
  obtain ⟨c0, x0⟩ := p
  rw [h] at HW
  go_enter Tryz.func7, Tryz.ntmps7
  go_wp2_with fail
  refine HW.out.mono ?_
  rintro e v ⟨rfl, hb⟩
  have E := Lib.hid hb
  clear hb
  go_wp2_with fail
  go_ret
  exact ⟨_, _, _, rfl, rdK_nil _ _, E.out.alloc E.out.size _⟩
 | inr ts =>
  rw [h] at HW
  go_enter Tryz.func7, Tryz.ntmps7
  go_wp2_with fail
  refine HW.out.mono ?_
  rintro e v ⟨⟨A, c, rfl, hr⟩, hb⟩
  have R1 := Lib.hid hr
  have E := Lib.hid hb
  clear hr hb
  go_wp2_with fail
  go_ret
  have hb2 := (Below.refl v.heap.size v).alloc (Nat.le_refl _) (.cells #[.int .i64 0, .int .i64 0, .int .i64 0] 64)
  exact ⟨_, _, _, rfl, rdK_of (R1.out.on hb2), E.out.alloc E.out.size _⟩
def txI (k : Int) (x : List Nat) : List Nat := if 0 ≤ k then YtjonoedomgacaaaGreatDoor.txt k.toNat x else x
theorem txI_len (k : Int) (x : List Nat) : (txI k x).length ≤ 2 * x.length + 2 := by
 unfold txI
 split
 ·unfold YtjonoedomgacaaaGreatDoor.txt
  split
  ·exact qt_len x
  ·split
   ·rw [List.length_cons]; omega
   ·split
    ·rw [List.length_cons]; omega
    ·split
     ·rw [List.length_append, List.length_singleton]; omega
     ·omega
 ·omega
theorem txI_lt (k : Int) (s : ByteArray) : ∀ c ∈ txI k (bs9 s), c < 256 := by
 have h := bs9_lt s
 unfold txI
 split
 ·unfold YtjonoedomgacaaaGreatDoor.txt
  split
  ·exact qt_lt h
  ·split
   ·intro c hc; rcases List.mem_cons.1 hc with rfl | hc; decide; exact h c hc
   ·split
    ·intro c hc; rcases List.mem_cons.1 hc with rfl | hc; decide; exact h c hc
    ·split
     ·intro c hc
      rcases List.mem_append.1 hc with hc | hc
      ·exact h c hc
      ·rw [List.mem_singleton.1 hc]; decide
     ·exact h
 ·exact h
theorem text14 (k : Int) {X Y : ByteArray} (h : txI k (bs9 X) = bs9 Y) (hX : X.size ≤ 6000) (l c : Int) (w : World) : Calls Tryz.prog 23 #[.agg #[.int .i64 k, .string X, .int .i64 l, .int .i64 c]] w (Ret9 w (.string Y)) := by
 by_cases h0 : 0 ≤ k
 ·obtain ⟨m, rfl⟩ : ∃ m : Nat, (m : Int) = k := ⟨k.toNat, by omega⟩
  unfold txI at h
  rw [if_pos h0, Int.toNat_natCast] at h
  exact lextxt_is h hX l c w
 ·unfold txI at h
  rw [if_neg h0] at h
  obtain rfl := bs9_inj h
  have HB : Hid (Below w.heap.size w (w.alloc (.cells #[.int .i64 k, .string X, .int .i64 l, .int .i64 c] 54))) := (Below.refl _ _).alloc (Nat.le_refl _) _
  have d5 : (k == 5) = false := by rw [beq_eq_false_iff_ne]; omega
  have d6 : (k == 6) = false := by rw [beq_eq_false_iff_ne]; omega
  have d7 : (k == 7) = false := by rw [beq_eq_false_iff_ne]; omega
  have d9 : (k == 9) = false := by rw [beq_eq_false_iff_ne]; omega
  clear h h0
  go_enter Tryz.func23, Tryz.ntmps23
  go_wp2_with fail
  go_ret
  exact ⟨rfl, HB.out⟩
theorem sum14 {X Y : ByteArray} {a b : List Nat} (hX : bs9 X = a) (hY : bs9 Y = b) (h : a.length + b.length ≤ 1000000) : ∃ Z, bs9 Z = a ++ b ∧ ∀ w, (Op.stringOp .add X Y).run Tryz.prog w = .ok (.string Z) w := by
 have hlt : ∀ c ∈ a ++ b, c < 256 := by
  intro c hc
  rcases List.mem_append.1 hc with h | h
  ·rw [← hX] at h; exact bs9_lt _ c h
  ·rw [← hY] at h; exact bs9_lt _ c h
 refine ⟨st9 (a ++ b), bs9_st9 hlt, fun w => add9 (by rw [bs9_st9 hlt, hX, hY]) (by rw [← bs9_len, ← bs9_len, hX, hY]; omega) w⟩
theorem prp_of {L : List Tk4} {l : List Nat} (hl : L.length = (wdsOf l).length) (h : ∀ j t u, j < L.length → L[j]? = some t → (tks 1 (wdsOf l))[j]? = some u → t.1 = u.1 ∧ t.2.1 = u.2.1) (hlt : ∀ c ∈ l, c < 256) : PrpL (L.map tok) := by
 intro x hx
 obtain ⟨t, ht, rfl⟩ := List.mem_map.1 hx
 obtain ⟨j, hj, e⟩ := List.getElem_of_mem ht
 have hj2 : j < (wdsOf l).length := by omega
 have h1 : (wdsOf l)[j]? = some ((wdsOf l)[j]) := List.getElem?_eq_getElem hj2
 have h2 := h j t _ hj (by rw [List.getElem?_eq_getElem hj, e]) (by unfold tks; rw [List.getElem?_map, h1]; rfl)
 unfold wdsOf at h1 hj2
 cases hw : WD D12 N12 0 l with
 | inl e => rw [hw] at hj2; exact absurd hj2 (Nat.not_lt_zero _)
 | inr ts =>
  have hm : (wdsOf l)[j] ∈ ts := by
   have : wdsOf l = ts := by unfold wdsOf; rw [hw]
   rw [← this]; exact List.getElem_mem _
  have hp := WD_prp _ (Nat.le_refl _) hw _ hm
  have hb := (WD_all dayok12 _ (Nat.le_refl _) hw hlt).2.2 _ hm
  obtain ⟨g1, g2⟩ := h2
  have e1 : t.1 = (((wdsOf l)[j]).1 : Int) := g1
  have e2 : t.2.1 = st9 ((wdsOf l)[j]).2.1 := g2
  show Prp t.1.toNat (bs9 t.2.1)
  rw [e1, e2, Int.toNat_natCast, bs9_st9 hb.1]
  exact hp
def jnL (L : List Tk4) : List Nat := L.flatMap fun t => 32 :: txI t.1 (bs9 t.2.1)
def kt (t : Tk4) : Int × List Nat := (t.1, bs9 t.2.1)
def plnB (L : List Tk4) : Bool := decide ((tks 1 (wdsOf (jnL L))).map kt = L.map kt)
theorem jnL_step {L : List Tk4} {i : Nat} {t : Tk4} (h : L[i]? = some t) : jnL (L.take (i + 1)) = jnL (L.take i) ++ (32 :: txI t.1 (bs9 t.2.1)) := by
 unfold jnL
 rw [List.take_add_one, h, List.flatMap_append]
 show _ ++ ((32 :: txI t.1 (bs9 t.2.1)) ++ []) = _
 rw [List.append_nil]
theorem pln_len {L : List Tk4} (h : L.length ≠ (wdsOf (jnL L)).length) : plnB L = false := decide_eq_false fun e => h (by
 have := congrArg List.length e
 unfold tks at this
 rw [List.length_map, List.length_map, List.length_map] at this
 exact this.symm)
theorem pln_at {L : List Tk4} {j : Nat} {t u : Tk4} (h1 : L[j]? = some t) (h2 : (tks 1 (wdsOf (jnL L)))[j]? = some u) (h : ¬ (t.1 = u.1 ∧ t.2.1 = u.2.1)) : plnB L = false := decide_eq_false fun e => h (by
 have := congrArg (fun l => l[j]?) e
 simp only [List.getElem?_map, h1, h2, Option.map_some] at this
 have e2 := Option.some.inj this
 exact ⟨(congrArg Prod.fst e2).symm, bs9_inj (congrArg Prod.snd e2).symm⟩)
theorem pln_yes {L : List Tk4} (hl : L.length = (wdsOf (jnL L)).length) (h : ∀ j t u, j < L.length → L[j]? = some t → (tks 1 (wdsOf (jnL L)))[j]? = some u → t.1 = u.1 ∧ t.2.1 = u.2.1) : plnB L = true := decide_eq_true (by
 have hl2 : (tks 1 (wdsOf (jnL L))).length = L.length := by unfold tks; rw [List.length_map]; exact hl.symm
 refine List.ext_getElem (by rw [List.length_map, List.length_map, hl2]) fun j g1 g2 => ?_
 rw [List.length_map] at g1 g2
 rw [List.getElem_map, List.getElem_map]
 obtain ⟨q1, q2⟩ := h j _ _ g2 (List.getElem?_eq_getElem g2) (List.getElem?_eq_getElem g1)
 unfold kt
 rw [q1, q2])
theorem jnL_lt (L : List Tk4) : ∀ c ∈ jnL L, c < 256 := by
 intro c hc
 obtain ⟨t, -, h⟩ := List.mem_flatMap.1 hc
 rcases List.mem_cons.1 h with rfl | h
 ·decide
 ·exact txI_lt _ _ c h
theorem pln_prp {L : List Tk4} (h : plnB L = true) : PrpL (L.map tok) := by
 have e := of_decide_eq_true h
 have hl : L.length = (wdsOf (jnL L)).length := by
  have := congrArg List.length e
  unfold tks at this
  rw [List.length_map, List.length_map, List.length_map] at this
  exact this.symm
 refine prp_of hl (fun j t u _ h1 h2 => ?_) (jnL_lt L)
 have := congrArg (fun l => l[j]?) e
 simp only [List.getElem?_map, h1, h2, Option.map_some] at this
 have e2 := Option.some.inj this
 exact ⟨(congrArg Prod.fst e2).symm, bs9_inj (congrArg Prod.snd e2).symm⟩
theorem str_differ {T U : ByteArray} (h : T ≠ U) : (T.toList == U.toList) = false := by
 rw [beq_eq_false_iff_ne]
 exact fun e => h (bs9_inj (by rw [ByteArray.toList_eq, ByteArray.toList_eq] at e; unfold bs9; rw [e]))
theorem plain14 {w : World} {B n c : Nat} {A : Option Addr} {L : List Tk4} (hok : Ok12 w) (hr : RdK w B A n c L) (hB : B ≤ w.heap.size) (hL : FewL (L.map tok)) : Calls Tryz.prog 9 #[.slice A n c] w (Ret9 w (.bool (plnB L))) := by
 have hlen := hr.len
 have hn9 : n ≤ 60 := by have := hL.1; rw [List.length_map] at this; omega
 have HSZ : Hid (∀ t ∈ L, t.2.1.size ≤ 30) := fun t ht => hL.2 (tok t) (List.mem_map_of_mem ht)
 have HL := Lib.hid hlen
 have R1 := Lib.hid hr
 have OK : Hid (∀ {W : World}, Below w.heap.size w W → Ok12 W) := fun hb => okw12 hok hb
 clear hr hlen hL hok
 go_enter Tryz.func9, Tryz.ntmps9
 go_wp2_with fail
 go_loopw [3, 10] (fun sv iv wr => ∃ (i : Nat) (S : ByteArray), sv = .string S ∧ iv = .int .i64 i ∧ i ≤ n ∧ S.size ≤ 63 * i ∧ bs9 S = jnL (L.take i) ∧ Below w.heap.size w wr) (fun _ iv _ => n - (intOf iv).toNat)
 case atStart => exact ⟨0, ⟨#[]⟩, rfl, rfl, Nat.zero_le _, Nat.zero_le _, rfl, Below.refl _ _⟩
 case round =>
  obtain ⟨i, S, rfl, rfl, hi, hS, hjn, hb⟩ := hrel
  have HB := Lib.hid hb
  have HJN := Lib.hid hjn
  clear hb hjn
  rcases Nat.lt_or_ge i n with hlt | hge
  ·obtain ⟨t, ht⟩ : ∃ t, L[i]? = some t := ⟨_, List.getElem?_eq_getElem (by have := HL.out; omega)⟩
   have hT := HSZ.out t (List.mem_of_getElem? ht)
   obtain ⟨p1, o1, rfl, q1, q2, q3, q4, a0, a1, a2, a3⟩ := (R1.out.on hB HB.out).at_ ht
   obtain ⟨k1, T, l1, c1⟩ := t
   clear q2
   have hT : T.size ≤ 30 := hT
   obtain ⟨Y, hY⟩ : ∃ Y, txI k1 (bs9 T) = bs9 Y := ⟨_, (bs9_st9 (txI_lt k1 T)).symm⟩
   have hYs : Y.size ≤ 62 := by rw [← bs9_len, ← hY]; have := txI_len k1 (bs9 T); rw [bs9_len] at this; omega
   have HY := Lib.hid hY
   have HST : Hid (jnL (L.take (i + 1)) = jnL (L.take i) ++ (32 :: txI k1 (bs9 T))) := jnL_step ht
   clear hY ht
   have hb2 := (Below.refl wr.heap.size wr).alloc (Nat.le_refl _) (.cells #[.int .i64 k1, .string T, .int .i64 l1, .int .i64 c1] 54)
   go_wp2_with fail
   refine (text14 k1 HY.out (by omega) l1 c1 _).mono ?_; rintro e w4 ⟨rfl, hb4⟩
   replace HB := Lib.hid (HB.out.trans ((hb2.trans (hb4.mono hb2.size)).mono HB.out.size))
   clear hb2 hb4 a0 a1 a2 a3
   obtain ⟨U, hU, aU⟩ := sum14 (X := ⟨#[32]⟩) (Y := Y) (a := [32]) rfl rfl (by rw [bs9_len, List.length_singleton]; omega)
   obtain ⟨V, hV, aV⟩ := sum14 (X := S) (Y := U) rfl hU (by rw [bs9_len, List.length_append, bs9_len, List.length_singleton]; omega)
   have hVs : V.size ≤ 63 * (i + 1) := by rw [← bs9_len, hV, List.length_append, List.length_append, bs9_len, bs9_len, List.length_singleton]; omega
   have HV : Hid (bs9 V = jnL (L.take (i + 1))) := by show _ = _; rw [hV, HST.out, HJN.out, HY.out]; rfl
   clear hU hV HY HST
   go_wp2_with fail
   go_roundw
   case rel => exact ⟨i + 1, V, rfl, by go_num, by omega, hVs, HV.out, HB.out⟩
   case measure => simp [intOf] <;> omega
  ·go_wp2_with fail
   refine (words14 (OK.out HB.out) (by omega)).mono ?_; rintro e w5 ⟨A2, n2, c2, rfl, hr2, hb5⟩
   have hlen2 := hr2.len
   have R2 := Lib.hid hr2
   have hlt9 := Lib.hid (bs9_lt S)
   have E := Lib.hid (HB.out.trans (hb5.mono HB.out.size))
   have HM : Hid (n2 = (wdsOf (bs9 S)).length) := by show _ = _; rw [hlen2]; unfold tks; rw [List.length_map]
   clear hr2 hlen2 hb5
   have hl : bs9 S = jnL L := by rw [HJN.out, List.take_of_length_le (by have := HL.out; omega)]
   rw [hl] at R2 HM hlt9
   clear hl
   by_cases hn2 : n = n2
   ·subst hn2
    go_wp2_with fail
    go_loopw [29] (fun iv wr => ∃ i : Nat, iv = .int .i64 i ∧ i ≤ n ∧ (∀ j t u, j < i → L[j]? = some t → (tks 1 (wdsOf (jnL L)))[j]? = some u → t.1 = u.1 ∧ t.2.1 = u.2.1) ∧ Below w5.heap.size w5 wr) (fun iv _ => n - (intOf iv).toNat)
    case atStart => exact ⟨0, rfl, Nat.zero_le _, fun j t u h => absurd h (Nat.not_lt_zero _), Below.refl _ _⟩
    case round =>
     obtain ⟨i2, rfl, hi2, hj2, hb⟩ := hrel
     have HB2 := Lib.hid hb
     have HJ := Lib.hid hj2
     clear hb hj2
     rcases Nat.lt_or_ge i2 n with hlt | hge2
     ·obtain ⟨t, ht⟩ : ∃ t, L[i2]? = some t := ⟨_, List.getElem?_eq_getElem (by have := HL.out; omega)⟩
      obtain ⟨u, hu⟩ : ∃ u, (tks 1 (wdsOf (jnL L)))[i2]? = some u := ⟨_, List.getElem?_eq_getElem (by have := HM.out; unfold tks; rw [List.length_map]; omega)⟩
      have HT := Lib.hid ht
      have HU := Lib.hid hu
      obtain ⟨p1, o1, rfl, q1, q2, q3, q4, a0, a1, a2, a3⟩ := (R1.out.on hB (E.out.trans (HB2.out.mono E.out.size))).at_ ht
      obtain ⟨p2, o2, rfl, y1, y2, y3, y4, b0, b1, b2, b3⟩ := (R2.out.on (Nat.le_refl _) HB2.out).at_ hu
      obtain ⟨k1, T, l1, c1⟩ := t
      obtain ⟨k2, U, l2, c9⟩ := u
      clear q2 y2 ht hu a2 a3 b2 b3
      by_cases hk : k1 = k2
      ·subst hk
       by_cases hT : T = U
       ·subst hT
        go_wp2_with fail
        go_quiet (fail)
        go_wp2_with fail
        go_roundw
        case rel =>
         refine ⟨i2 + 1, by go_num, by omega, fun j t u hj ht hu => ?_, below_drewN HB2.out _⟩
         rcases Nat.lt_or_ge j i2 with h | h
         ·exact HJ.out j t u h ht hu
         ·obtain rfl : j = i2 := by omega
          rw [HT.out] at ht
          rw [HU.out] at hu
          cases ht; cases hu; exact ⟨rfl, rfl⟩
        case measure => simp [intOf] <;> omega
       ·have d2 := str_differ hT
        have PF : Hid (plnB L = false) := pln_at HT.out HU.out fun e => hT e.2
        go_wp2_with fail
        go_quiet (fail)
        go_wp2_with fail
        go_ret
        exact ⟨by rw [PF.out]; rfl, E.out.trans ((below_drewN HB2.out _).mono E.out.size)⟩
      ·have d1 : (k1 == k2) = false := by rw [beq_eq_false_iff_ne]; exact hk
       have PF : Hid (plnB L = false) := pln_at HT.out HU.out fun e => hk e.1
       go_wp2_with fail
       go_quiet (fail)
       go_wp2_with fail
       go_ret
       exact ⟨by rw [PF.out]; rfl, E.out.trans ((below_drewN HB2.out _).mono E.out.size)⟩
     ·go_wp2_with fail
      go_ret
      refine ⟨by rw [pln_yes (by rw [← HL.out]; exact HM.out) (fun j t u hj => HJ.out j t u (by have := HL.out; omega))]; rfl, E.out.trans (HB2.out.mono E.out.size)⟩
   ·have d1 : ((n : Int) == (n2 : Int)) = false := by rw [beq_eq_false_iff_ne]; omega
    have PF : Hid (plnB L = false) := pln_len (by rw [← HL.out, ← HM.out]; exact hn2)
    go_wp2_with fail
    go_ret
    exact ⟨by rw [PF.out]; rfl, E.out⟩
theorem err_all (L : List Tok) : ∀ f : Nat,
  (∀ {d a e p}, facF L f d a = .inl (e, p) → e ≠ 0) ∧ (∀ {d a e p}, proF L f d a = .inl (e, p) → e ≠ 0) ∧ (∀ {d i k a e p}, proL L f d i k a = .inl (e, p) → e ≠ 0) ∧
  (∀ {d a e p}, sumF L f d a = .inl (e, p) → e ≠ 0) ∧ (∀ {d i k a e p}, sumL L f d i k a = .inl (e, p) → e ≠ 0) := by
 intro f
 induction f with
 | zero =>
  refine ⟨fun h => ?_, fun h => ?_, fun h => ?_, fun h => ?_, fun h => ?_⟩
  ·rw [facF] at h; cases h; decide
  ·rw [proF] at h; cases h; decide
  ·rw [proL] at h; cases h; decide
  ·rw [sumF] at h; cases h; decide
  ·rw [sumL] at h; cases h; decide
 | succ f ih =>
  obtain ⟨ih1, ih2, ih3, ih4, ih5⟩ := ih
  refine ⟨fun {d a e p} h => ?_, fun {d a e p} h => ?_, fun {d i k a e p} h => ?_, fun {d a e p} h => ?_, fun {d i k a e p} h => ?_⟩
  ·rw [facF] at h
   split at h
   ·cases h; decide
   ·split at h
    ·split at h
     ·cases h; decide
     ·cases h
    ·split at h
     ·cases h; decide
     ·split at h
      ·cases h; decide
      ·split at h
       ·cases hr : sumF L f (d + 1) (a + 1) with
        | inl q =>
         rw [hr] at h
         obtain ⟨x, y⟩ := q
         cases h
         exact ih4 hr
        | inr q =>
         obtain ⟨x, y, z⟩ := q
         rw [hr] at h
         unfold Rs.shut at h
         dsimp only at h
         split at h
         ·cases h
         ·cases h
          split <;> decide
       ·cases hr : facF L f (d + 1) (a + 1) with
        | inl q =>
         rw [hr] at h
         obtain ⟨x, y⟩ := q
         cases h
         exact ih1 hr
        | inr q =>
         obtain ⟨x, y, z⟩ := q
         rw [hr] at h
         cases h
  ·rw [proF] at h
   split at h
   ·rename_i hr
    cases h
    exact ih1 hr
   ·exact ih3 h
  ·rw [proL] at h
   split at h
   ·split at h
    ·rename_i hr
     cases h
     exact ih1 hr
    ·exact ih3 h
   ·split at h
    ·split at h
     ·rename_i hr
      cases h
      exact ih1 hr
     ·split at h
      ·cases h; decide
      ·exact ih3 h
    ·cases h
  ·rw [sumF] at h
   split at h
   ·rename_i hr
    cases h
    exact ih2 hr
   ·exact ih5 h
  ·rw [sumL] at h
   split at h
   ·split at h
    ·rename_i hr
     cases h
     exact ih2 hr
    ·exact ih5 h
   ·split at h
    ·split at h
     ·rename_i hr
      cases h
      exact ih2 hr
     ·exact ih5 h
    ·cases h
theorem SUM_bad {L : List Tok} {d a e p : Nat} (h : SUM L d a = .inl (e, p)) : e ≠ 0 := (err_all L _).2.2.2.1 h
section
variable {L : List Tok} {a e p b : Nat}
theorem amt_bad (h : amt L a = .inl (e, p)) : e ≠ 0 := by
 unfold amt at h
 split at h
 ·rename_i hs
  cases h
  exact SUM_bad hs
 ·split at h
  ·cases h; decide
  ·split at h
   ·cases h
   ·cases h; decide
theorem unt_bad (h : unt L a = .inl (e, p)) : e ≠ 0 := by
 unfold unt at h
 split at h
 ·cases h
 ·split at h
  ·cases h
  ·split at h
   ·cases h
   ·split at h
    ·rename_i ha
     cases h
     exact amt_bad ha
    ·cases h
theorem itm_bad {c : Co} (h : itm L c a = .inl (e, p)) : e ≠ 0 := by
 unfold itm at h
 split at h
 ·cases h; decide
 ·split at h
  ·cases h
  ·split at h
   ·cases h
   ·split at h
    ·cases h
    ·split at h
     ·split at h
      ·rename_i ha
       cases h
       exact amt_bad ha
      ·cases h
     ·cases h; decide
theorem cstL_bad : ∀ (f : Nat) {c : Co} {a : Nat}, cstL L f c a = .inl (e, p) → e ≠ 0 := by
 intro f
 induction f with
 | zero => intro c a h; rw [cstL] at h; cases h; decide
 | succ f ih =>
  intro c a h
  rw [cstL] at h
  split at h
  ·rename_i hi
   cases h
   exact itm_bad hi
  ·split at h
   ·cases h
   ·split at h
    ·exact ih h
    ·cases h
     unfold shr; split <;> decide
theorem cst_bad (h : cst L a = .inl (e, p)) : e ≠ 0 := by
 unfold cst at h
 split at h
 ·split at h
  ·rename_i hb
   cases h
   unfold cstB at hb
   split at hb
   ·cases hb
   ·exact cstL_bad _ hb
  ·cases h
 ·cases h
theorem prc_bad (h : prc L a = .inl (e, p)) : e ≠ 0 := by
 unfold prc at h
 split at h
 ·split at h
  ·rename_i hb
   cases h
   exact unt_bad hb
  ·cases h
 ·cases h
end
def UnF (u : Un) : Prop := (dg u.i.natAbs).length ≤ 900 ∧ u.k ≤ 4010 ∧ u.cur.size ≤ 6000
theorem dg_none : (dg (0 : Int).natAbs).length ≤ 900 := Nat.le_trans (sz_zero 0).nine (by decide)
theorem UnS.fits {u : Un} (h : UnS u) : UnF u := by
 obtain ⟨h1, h2, h3⟩ := h
 have := h1.nine
 rw [bs9_len] at h3
 exact ⟨by omega, by omega, by omega⟩
section
variable {L : List Tok} (hL : Wgh.ws L L.length ≤ 4010) {a b k : Nat} {i : Int} {x : ByteArray} {u : Un} {c c' : Co} {m : Bool}
include hL
end
def Bk (w : World) (g : Nat) (xs : Array Value) (t : TypeId) : Prop := w.heap[g]? = some (.cells xs t (0, 0))
theorem Bk.lt {w : World} {g : Nat} {xs : Array Value} {t : TypeId} (h : Bk w g xs t) : g < w.heap.size := by
 rcases Nat.lt_or_ge g w.heap.size with h1 | h1
 ·exact h1
 ·unfold Bk at h; rw [Array.getElem?_eq_none h1] at h; cases h
theorem Bk.on {w w' : World} {g : Nat} {xs : Array Value} {t : TypeId} (h : Bk w g xs t) (hb : Below w.heap.size w w') : Bk w' g xs t := (hb.block g h.lt).trans h
theorem Bk.cell {w : World} {g : Nat} {xs : Array Value} {t : TypeId} (h : Bk w g xs t) (j : Nat) : w.cell? ⟨g, j, none⟩ = xs[j]? := cell_of_row w g j _ _ _ h
theorem Bk.new (v : World) (xs : Array Value) (t : TypeId) {g : Nat} (h : g = v.heap.size) : Bk (v.alloc (.cells xs t)) g xs t := by subst h; exact heap_alloc_new v _
structure VU where
 b : Bool
 i : Int
 k : Nat
 s : ByteArray
structure VP where
 h : Bool
 t : Bool
 b : Bool
 i : Int
 k : Nat
 s : ByteArray
structure VC where
 h : Bool
 t : Bool
 b : Bool
 i : Int
 k : Nat
 s : ByteArray
 y : Int
 m : Int
 d : Int
 l : ByteArray
def VU.of (u : Un) : VU := ⟨u.has, u.i, u.k, u.cur⟩
def VP.of : Option (Bool × Un) → VP
 | none => ⟨false, false, false, 0, 0, ⟨#[]⟩⟩
 | some (t, u) => ⟨true, t, u.has, u.i, u.k, u.cur⟩
def VC.of : Option Co → VC
 | none => ⟨false, false, false, 0, 0, ⟨#[]⟩, 0, 0, 0, ⟨#[]⟩⟩
 | some c => ⟨true, c.tot, c.un.has, c.un.i, c.un.k, c.un.cur, c.day.1, c.day.2.1, c.day.2.2, c.lab⟩
def resU : (Nat × Nat) ⊕ (Un × Nat) → VU × Nat × Nat
 | .inl (e, p) => (VU.of Un.zero, p, e)
 | .inr (u, p) => (VU.of u, p, 0)
def resC : (Nat × Nat) ⊕ (Option Co × Nat) → VC × Nat × Nat
 | .inl (e, p) => (VC.of none, p, e)
 | .inr (u, p) => (VC.of u, p, 0)
def resP : (Nat × Nat) ⊕ (Option (Bool × Un) × Nat) → VP × Nat × Nat
 | .inl (e, p) => (VP.of none, p, e)
 | .inr (u, p) => (VP.of u, p, 0)
def sameU (v v' : VU) : Bool := decide (v.b = v'.b ∧ v.i = v'.i ∧ v.k = v'.k ∧ bs9 v.s = bs9 v'.s)
def sameC (v v' : VC) : Bool := decide (v.h = v'.h ∧ v.t = v'.t ∧ v.b = v'.b ∧ v.i = v'.i ∧ v.k = v'.k ∧ bs9 v.s = bs9 v'.s ∧ v.y = v'.y ∧ v.m = v'.m ∧ v.d = v'.d ∧ bs9 v.l = bs9 v'.l)
def sameP (v v' : VP) : Bool := decide (v.h = v'.h ∧ v.t = v'.t ∧ v.b = v'.b ∧ v.i = v'.i ∧ v.k = v'.k ∧ bs9 v.s = bs9 v'.s)
theorem sameU_refl (v : VU) : sameU v v = true := decide_eq_true ⟨rfl, rfl, rfl, rfl⟩
theorem sameC_refl (v : VC) : sameC v v = true := decide_eq_true ⟨rfl, rfl, rfl, rfl, rfl, rfl, rfl, rfl, rfl, rfl⟩
theorem sameP_refl (v : VP) : sameP v v = true := decide_eq_true ⟨rfl, rfl, rfl, rfl, rfl, rfl⟩
structure VA where
 i : Int
 k : Nat
 s : ByteArray
def resA : RA → VA × Nat × Nat
 | .inl (e, p) => (⟨0, 0, ⟨#[]⟩⟩, p, e)
 | .inr (i, k, c, p) => (⟨i, k, c⟩, p, 0)
def txtA (v : VA) : List Nat := amtT v.i v.k (bs9 v.s)
def txtU (v : VU) : List Nat := untT ⟨v.b, v.i, v.k, v.s⟩
def txtC (v : VC) : List Nat := if v.h = true then cstT ⟨v.t, ⟨v.b, v.i, v.k, v.s⟩, (v.y, v.m, v.d), v.l⟩ else []
def txtP (v : VP) : List Nat := if v.h = true then prcT (v.t, ⟨v.b, v.i, v.k, v.s⟩) else []
def RvU (w : World) (v : VU) (p e : Nat) (en : Ending) (w' : World) : Prop := ∃ (A : Option Addr) (n c : Nat), en = .returned (.tuple #[.agg #[.bool v.b, .bool (ngB v.i), .slice A n c, .int .i64 (v.k : Int), .string v.s], .int .i64 (p : Int), .int .i64 (e : Int)]) ∧ Num w' w'.heap.size A n c v.i.natAbs ∧ Below w.heap.size w w'
def READU : Prop := ∀ {w : World} {B n c : Nat} {A : Option Addr} {L : List Tk4} {G : Nat → Nat → Int → Nat → Prop} {v : VU} {p e : Nat}, RdK w B A n c L → B ≤ w.heap.size → n ≤ 400 → Siz (L.map tok) G → Ok12 w → resU (unt (L.map tok) 0) = (v, p, e) → Calls Tryz.prog 6 #[.slice A n c, .int .i64 0] w (RvU w v p e)
def TEXTU : Prop := ∀ {w : World} {A : Option Addr} {n c : Nat} {v : VU} {T : ByteArray}, Num w w.heap.size A n c v.i.natAbs → n ≤ 900 → v.k ≤ 4010 → v.s.size ≤ 30 → Ok12 w → txtU v = bs9 T → Calls Tryz.prog 8 #[.agg #[.bool v.b, .bool (ngB v.i), .slice A n c, .int .i64 (v.k : Int), .string v.s]] w (Ret9 w (.string T))
def SAMEU : Prop := ∀ {w : World} {A A' : Option Addr} {n c n' c' : Nat} {v v' : VU} {x : Bool}, Num w w.heap.size A n c v.i.natAbs → Num w w.heap.size A' n' c' v'.i.natAbs → Ok12 w → sameU v v' = x → Calls Tryz.prog 10 #[.agg #[.bool v.b, .bool (ngB v.i), .slice A n c, .int .i64 (v.k : Int), .string v.s], .agg #[.bool v'.b, .bool (ngB v'.i), .slice A' n' c', .int .i64 (v'.k : Int), .string v'.s]] w (Ret9 w (.bool x))
def RvC (w : World) (v : VC) (p e : Nat) (en : Ending) (w' : World) : Prop := ∃ (A : Option Addr) (n c : Nat), en = .returned (.tuple #[.agg #[.bool v.h, .bool v.t, .bool v.b, .bool (ngB v.i), .slice A n c, .int .i64 (v.k : Int), .string v.s, .int .i64 v.y, .int .i64 v.m, .int .i64 v.d, .string v.l], .int .i64 (p : Int), .int .i64 (e : Int)]) ∧ Num w' w'.heap.size A n c v.i.natAbs ∧ Below w.heap.size w w'
def READC : Prop := ∀ {w : World} {B n c : Nat} {A : Option Addr} {L : List Tk4} {G : Nat → Nat → Int → Nat → Prop} {v : VC} {p e : Nat}, RdK w B A n c L → B ≤ w.heap.size → n ≤ 400 → Siz (L.map tok) G → Ok12 w → resC (cst (L.map tok) 0) = (v, p, e) → Calls Tryz.prog 11 #[.slice A n c, .int .i64 0] w (RvC w v p e)
def TEXTC : Prop := ∀ {w : World} {A : Option Addr} {n c : Nat} {v : VC} {T : ByteArray}, Num w w.heap.size A n c v.i.natAbs → n ≤ 900 → v.k ≤ 4010 → v.s.size ≤ 30 → v.l.size ≤ 30 → Ok12 w → txtC v = bs9 T → Calls Tryz.prog 12 #[.agg #[.bool v.h, .bool v.t, .bool v.b, .bool (ngB v.i), .slice A n c, .int .i64 (v.k : Int), .string v.s, .int .i64 v.y, .int .i64 v.m, .int .i64 v.d, .string v.l]] w (Ret9 w (.string T))
def SAMEC : Prop := ∀ {w : World} {A A' : Option Addr} {n c n' c' : Nat} {v v' : VC} {x : Bool}, Num w w.heap.size A n c v.i.natAbs → Num w w.heap.size A' n' c' v'.i.natAbs → Ok12 w → sameC v v' = x → Calls Tryz.prog 13 #[.agg #[.bool v.h, .bool v.t, .bool v.b, .bool (ngB v.i), .slice A n c, .int .i64 (v.k : Int), .string v.s, .int .i64 v.y, .int .i64 v.m, .int .i64 v.d, .string v.l], .agg #[.bool v'.h, .bool v'.t, .bool v'.b, .bool (ngB v'.i), .slice A' n' c', .int .i64 (v'.k : Int), .string v'.s, .int .i64 v'.y, .int .i64 v'.m, .int .i64 v'.d, .string v'.l]] w (Ret9 w (.bool x))
def RvP (w : World) (v : VP) (p e : Nat) (en : Ending) (w' : World) : Prop := ∃ (A : Option Addr) (n c : Nat), en = .returned (.tuple #[.agg #[.bool v.h, .bool v.t, .bool v.b, .bool (ngB v.i), .slice A n c, .int .i64 (v.k : Int), .string v.s], .int .i64 (p : Int), .int .i64 (e : Int)]) ∧ Num w' w'.heap.size A n c v.i.natAbs ∧ Below w.heap.size w w'
def READP : Prop := ∀ {w : World} {B n c : Nat} {A : Option Addr} {L : List Tk4} {G : Nat → Nat → Int → Nat → Prop} {v : VP} {p e : Nat}, RdK w B A n c L → B ≤ w.heap.size → n ≤ 400 → Siz (L.map tok) G → Ok12 w → resP (prc (L.map tok) 0) = (v, p, e) → Calls Tryz.prog 14 #[.slice A n c, .int .i64 0] w (RvP w v p e)
def TEXTP : Prop := ∀ {w : World} {A : Option Addr} {n c : Nat} {v : VP} {T : ByteArray}, Num w w.heap.size A n c v.i.natAbs → n ≤ 900 → v.k ≤ 4010 → v.s.size ≤ 30 → Ok12 w → txtP v = bs9 T → Calls Tryz.prog 15 #[.agg #[.bool v.h, .bool v.t, .bool v.b, .bool (ngB v.i), .slice A n c, .int .i64 (v.k : Int), .string v.s]] w (Ret9 w (.string T))
def SAMEP : Prop := ∀ {w : World} {A A' : Option Addr} {n c n' c' : Nat} {v v' : VP} {x : Bool}, Num w w.heap.size A n c v.i.natAbs → Num w w.heap.size A' n' c' v'.i.natAbs → Ok12 w → sameP v v' = x → Calls Tryz.prog 16 #[.agg #[.bool v.h, .bool v.t, .bool v.b, .bool (ngB v.i), .slice A n c, .int .i64 (v.k : Int), .string v.s], .agg #[.bool v'.h, .bool v'.t, .bool v'.b, .bool (ngB v'.i), .slice A' n' c', .int .i64 (v'.k : Int), .string v'.s]] w (Ret9 w (.bool x))
def RvA (w : World) (v : VA) (p e : Nat) (en : Ending) (w' : World) : Prop := ∃ (A : Option Addr) (n c : Nat), en = .returned (.tuple #[.agg #[.bool (ngB v.i), .slice A n c, .int .i64 (v.k : Int), .string v.s], .int .i64 (p : Int), .int .i64 (e : Int)]) ∧ Num w' w'.heap.size A n c v.i.natAbs ∧ Below w.heap.size w w'
def READA : Prop := ∀ {w : World} {B n c : Nat} {A : Option Addr} {L : List Tk4} {G : Nat → Nat → Int → Nat → Prop} {v : VA} {p e : Nat}, RdK w B A n c L → B ≤ w.heap.size → n ≤ 400 → Siz (L.map tok) G → Ok12 w → resA (amt (L.map tok) 0) = (v, p, e) → Calls Tryz.prog 17 #[.slice A n c, .int .i64 0] w (RvA w v p e)
def TEXTA : Prop := ∀ {w : World} {A : Option Addr} {n c : Nat} {v : VA} {T : ByteArray}, Num w w.heap.size A n c v.i.natAbs → n ≤ 900 → v.k ≤ 4010 → v.s.size ≤ 30 → Ok12 w → txtA v = bs9 T → Calls Tryz.prog 18 #[.agg #[.bool (ngB v.i), .slice A n c, .int .i64 (v.k : Int), .string v.s]] w (Ret9 w (.string T))
def AWK14 : Prop := ∀ w : World, Ok12 w → Calls Tryz.prog 5 #[] w (Ret9 w (.bool true))
theorem unt_bytes (u : Un) : ∀ c ∈ untT u, c < 256 := by
 unfold untT
 split
 ·intro c h
  rcases List.mem_append.1 h with h | h
  ·exact txtD_lt _ _ c h
  ·rcases List.mem_cons.1 h with rfl | h
   ·decide
   ·exact bs9_lt _ c h
 ·exact bs9_lt _
theorem jnT_bytes : ∀ l : List (List Nat), (∀ x ∈ l, ∀ c ∈ x, c < 256) → ∀ c ∈ jnT l, c < 256
 | [], _, c, h => by cases h
 | [x], h, c, hc => h x List.mem_cons_self c hc
 | x :: y :: r, h, c, hc => by
  rcases List.mem_append.1 hc with hc | hc
  ·exact h x List.mem_cons_self c hc
  ·rcases List.mem_cons.1 hc with rfl | hc
   ·decide
   ·rcases List.mem_cons.1 hc with rfl | hc
    ·decide
    ·exact jnT_bytes (y :: r) (fun z hz => h z (List.mem_cons_of_mem _ hz)) c hc
theorem cst_bytes (c : Co) : ∀ x ∈ cstT c, x < 256 := by
 unfold cstT
 intro x h
 rcases List.mem_append.1 h with h | h
 ·exact opn_lt _ x h
 ·rcases List.mem_append.1 h with h | h
  ·refine jnT_bytes _ (fun z hz y hy => ?_) x h
   unfold prtT at hz
   rcases List.mem_append.1 hz with hz | hz
   ·split at hz
    ·rw [List.mem_singleton.1 hz] at hy; exact unt_bytes _ y hy
    ·cases hz
   ·rcases List.mem_append.1 hz with hz | hz
    ·split at hz
     ·rw [List.mem_singleton.1 hz] at hy; exact bs9_lt _ y hy
     ·cases hz
    ·split at hz
     ·rw [List.mem_singleton.1 hz] at hy; exact qt_lt (bs9_lt _) y hy
     ·cases hz
  ·exact shut_lt _ x h
theorem prc_bytes (p : Bool × Un) : ∀ x ∈ prcT p, x < 256 := by
 unfold prcT
 intro x h
 rcases List.mem_append.1 h with h | h
 ·split at h
  ·rcases List.mem_cons.1 h with rfl | h
   ·decide
   ·rw [List.mem_singleton.1 h]; decide
  ·rw [List.mem_singleton.1 h]; decide
 ·split at h
  ·rcases List.mem_cons.1 h with rfl | h
   ·decide
   ·exact unt_bytes _ x h
  ·cases h
theorem fit14 {T : ByteArray} (h : Wgt (bs9 T) 4010) : Wgh.ws ((tks 1 (wdsOf (bs9 T))).map tok) ((tks 1 (wdsOf (bs9 T))).map tok).length ≤ 4010 := by
 cases hw : WD D12 N12 0 (bs9 T) with
 | inl e => unfold wdsOf; rw [hw]; exact Nat.zero_le _
 | inr ts =>
  have e : wdsOf (bs9 T) = ts := by unfold wdsOf; rw [hw]
  rw [e, ws_tks 1 ts (fun t ht => ((WD_all dayok12 _ (Nat.le_refl _) hw (bs9_lt T)).2.2 t ht).1)]
  exact h 0 ts hw
theorem wds14 {T : ByteArray} {us : List (Nat × List Nat)} (h : Wds (bs9 T) us) : (tks 1 (wdsOf (bs9 T))).map tok = us.map tk := by
 obtain ⟨ts, h1, h2⟩ := h 0
 have e : wdsOf (bs9 T) = ts := by unfold wdsOf; rw [h1]
 rw [e, tks_tk 1 h2]
theorem ws_many {L : List Tok} : ∀ n, n ≤ L.length → 11 * n ≤ Wgh.ws L n := by
 intro n
 induction n with
 | zero => intro _; exact Nat.zero_le _
 | succ n ih => intro h; have := ih (by omega); have := Wgh.ws_lt (L := L) (show n < n + 1 by omega) h; omega
theorem resU_ok {L : List Tok} {v : VU} {p : Nat} (h : resU (unt L 0) = (v, p, 0)) : ∃ u, unt L 0 = .inr (u, p) ∧ v = VU.of u := by
 cases hu : unt L 0 with
 | inl q =>
  obtain ⟨e, a⟩ := q
  rw [hu] at h
  exact absurd (congrArg (fun x => x.2.2) h) (unt_bad hu)
 | inr q =>
  obtain ⟨u, a⟩ := q
  rw [hu] at h
  have e1 : a = p := congrArg (fun x => x.2.1) h
  exact ⟨u, by rw [e1], (congrArg Prod.fst h).symm⟩
theorem resC_ok {L : List Tok} {v : VC} {p : Nat} (h : resC (cst L 0) = (v, p, 0)) : ∃ u, cst L 0 = .inr (u, p) ∧ v = VC.of u := by
 cases hu : cst L 0 with
 | inl q =>
  obtain ⟨e, a⟩ := q
  rw [hu] at h
  exact absurd (congrArg (fun x => x.2.2) h) (cst_bad hu)
 | inr q =>
  obtain ⟨u, a⟩ := q
  rw [hu] at h
  have e1 : a = p := congrArg (fun x => x.2.1) h
  exact ⟨u, by rw [e1], (congrArg Prod.fst h).symm⟩
theorem resP_ok {L : List Tok} {v : VP} {p : Nat} (h : resP (prc L 0) = (v, p, 0)) : ∃ u, prc L 0 = .inr (u, p) ∧ v = VP.of u := by
 cases hu : prc L 0 with
 | inl q =>
  obtain ⟨e, a⟩ := q
  rw [hu] at h
  exact absurd (congrArg (fun x => x.2.2) h) (prc_bad hu)
 | inr q =>
  obtain ⟨u, a⟩ := q
  rw [hu] at h
  have e1 : a = p := congrArg (fun x => x.2.1) h
  exact ⟨u, by rw [e1], (congrArg Prod.fst h).symm⟩
theorem u_few {L : List Tok} {v : VU} {p : Nat} (hL : FewL L) (h : resU (unt L 0) = (v, p, 0)) : (dg v.i.natAbs).length ≤ 900 ∧ v.k ≤ 4010 ∧ v.s.size ≤ 30 ∧ (txtU v).length ≤ 6000 ∧ Wgt (txtU v) 4010 := by
 obtain ⟨u, hu, rfl⟩ := resU_ok h
 have g := unt_small hL hu
 have g2 := g.fits
 have g3 := g.2.2
 rw [bs9_len] at g3
 exact ⟨g2.1, g2.2.1, g3, Nat.le_trans (untT_len g) (by decide), wgt_units g⟩
theorem c_few {L : List Tok} {v : VC} {p : Nat} (hL : FewL L) (h : resC (cst L 0) = (v, p, 0)) : (dg v.i.natAbs).length ≤ 900 ∧ v.k ≤ 4010 ∧ v.s.size ≤ 30 ∧ v.l.size ≤ 30 ∧ (txtC v).length ≤ 6000 ∧ Wgt (txtC v) 4010 := by
 obtain ⟨u, hu, rfl⟩ := resC_ok h
 cases u with
 | none => exact ⟨dg_none, Nat.zero_le _, Nat.zero_le _, Nat.zero_le _, Nat.zero_le _, wgt_nil.mono (by decide)⟩
 | some c =>
  have g := cst_small hL hu
  have g2 := g.1.fits
  have g3 := g.1.2.2
  have g4 := g.2
  rw [bs9_len] at g3 g4
  exact ⟨g2.1, g2.2.1, g3, g4, Nat.le_trans (cstT_len g) (by decide), wgt_cst g⟩
theorem p_few {L : List Tok} {v : VP} {p : Nat} (hL : FewL L) (h : resP (prc L 0) = (v, p, 0)) : (dg v.i.natAbs).length ≤ 900 ∧ v.k ≤ 4010 ∧ v.s.size ≤ 30 ∧ (txtP v).length ≤ 6000 ∧ Wgt (txtP v) 4010 := by
 obtain ⟨u, hu, rfl⟩ := resP_ok h
 cases u with
 | none => exact ⟨dg_none, Nat.zero_le _, Nat.zero_le _, Nat.zero_le _, wgt_nil.mono (by decide)⟩
 | some c =>
  obtain ⟨t, c⟩ := c
  have g := prc_small hL hu
  have g2 := g.fits
  have g3 := g.2.2
  rw [bs9_len] at g3
  exact ⟨g2.1, g2.2.1, g3, Nat.le_trans (prcT_len (p := (t, c)) g) (by decide), wgt_prc (p := (t, c)) g⟩
theorem u_back {L : List Tok} {v : VU} {p : Nat} {T : ByteArray} (hP : PrpL L) (h : resU (unt L 0) = (v, p, 0)) (hT : txtU v = bs9 T) : resU (unt ((tks 1 (wdsOf (bs9 T))).map tok) 0) = (v, (wdsOf (bs9 T)).length, 0) := by
 obtain ⟨u, hu, rfl⟩ := resU_ok h
 have g := unt_ok hP hu
 have hw : Wds (bs9 T) (unW u) := by rw [← hT]; exact wds_units g
 have e := wds14 hw
 have hl : ((tks 1 (wdsOf (bs9 T))).map tok).length = (wdsOf (bs9 T)).length := by unfold tks; rw [List.length_map, List.length_map]
 rw [unt_back g (by rw [List.drop_zero]; exact e) (Nat.zero_le _), hl]; rfl
theorem c_back {L : List Tok} {v : VC} {p : Nat} {T : ByteArray} (hP : PrpL L) (h : resC (cst L 0) = (v, p, 0)) (hT : txtC v = bs9 T) : resC (cst ((tks 1 (wdsOf (bs9 T))).map tok) 0) = (v, (wdsOf (bs9 T)).length, 0) := by
 obtain ⟨u, hu, rfl⟩ := resC_ok h
 have hl : ((tks 1 (wdsOf (bs9 T))).map tok).length = (wdsOf (bs9 T)).length := by unfold tks; rw [List.length_map, List.length_map]
 cases u with
 | none =>
  have hw : Wds (bs9 T) [] := by rw [← hT]; exact wds_nil
  have e := wds14 hw
  have h0 : (wdsOf (bs9 T)).length = 0 := by rw [← hl, e]; rfl
  rw [e, h0]; rfl
 | some c =>
  have g := cst_ok hP hu
  have hw : Wds (bs9 T) (cstW c) := by rw [← hT]; exact wds_cst g
  rw [cst_told g (wds14 hw), hl]; rfl
theorem p_back {L : List Tok} {v : VP} {p : Nat} {T : ByteArray} (hP : PrpL L) (h : resP (prc L 0) = (v, p, 0)) (hT : txtP v = bs9 T) : resP (prc ((tks 1 (wdsOf (bs9 T))).map tok) 0) = (v, (wdsOf (bs9 T)).length, 0) := by
 obtain ⟨u, hu, rfl⟩ := resP_ok h
 have hl : ((tks 1 (wdsOf (bs9 T))).map tok).length = (wdsOf (bs9 T)).length := by unfold tks; rw [List.length_map, List.length_map]
 cases u with
 | none =>
  have hw : Wds (bs9 T) [] := by rw [← hT]; exact wds_nil
  have e := wds14 hw
  have h0 : (wdsOf (bs9 T)).length = 0 := by rw [← hl, e]; rfl
  rw [e, h0]; rfl
 | some c =>
  obtain ⟨t, c⟩ := c
  have g := prc_ok hP hu
  have hw : Wds (bs9 T) (prcW (t, c)) := by rw [← hT]; exact wds_prc (p := (t, c)) g
  rw [prc_told (p := (t, c)) g (wds14 hw), hl]; rfl
theorem txtU_lt (v : VU) : ∀ c ∈ txtU v, c < 256 := unt_bytes _
theorem txtC_lt (v : VC) : ∀ c ∈ txtC v, c < 256 := by
 unfold txtC
 split
 ·exact cst_bytes _
 ·intro c h; cases h
theorem txtP_lt (v : VP) : ∀ c ∈ txtP v, c < 256 := by
 unfold txtP
 split
 ·exact prc_bytes _
 ·intro c h; cases h
structure S14 (w0 w : World) (l : List (Option Addr × Nat × Nat × Nat)) (bs : List (Nat × Array Value × TypeId)) : Prop where
 bel : Below w0.heap.size w0 w
 num : ∀ q ∈ l, Num w w.heap.size q.1 q.2.1 q.2.2.1 q.2.2.2
 blk : ∀ q ∈ bs, Bk w q.1 q.2.1 q.2.2
section
variable {w0 w w' : World} {l : List (Option Addr × Nat × Nat × Nat)} {bs : List (Nat × Array Value × TypeId)}
theorem S14.start (w : World) : S14 w w [] [] := ⟨Below.refl _ _, fun q hq => (by cases hq), fun q hq => (by cases hq)⟩
theorem S14.step (h : S14 w0 w l bs) (hb : Below w.heap.size w w') : S14 w0 w' l bs := ⟨h.bel.trans (hb.mono h.bel.size), fun q hq => (h.num q hq).on hb, fun q hq => (h.blk q hq).on hb⟩
theorem S14.push (h : S14 w0 w l bs) (hb : Below w.heap.size w w') {A : Option Addr} {n c a : Nat} (hn : Num w' w'.heap.size A n c a) : S14 w0 w' ((A, n, c, a) :: l) bs := by
 have h2 := h.step hb
 refine ⟨h2.bel, fun q hq => ?_, h2.blk⟩
 rcases List.mem_cons.1 hq with rfl | hq
 ·exact hn
 ·exact h2.num q hq
theorem S14.lay (h : S14 w0 w l bs) (xs : Array Value) (t : TypeId) {g : Nat} (hg : g = w.heap.size) : S14 w0 (w.alloc (.cells xs t)) l ((g, xs, t) :: bs) := by
 have h2 := h.step ((Below.refl _ _).alloc (Nat.le_refl _) (.cells xs t))
 refine ⟨h2.bel, h2.num, fun q hq => ?_⟩
 rcases List.mem_cons.1 hq with rfl | hq
 ·exact Bk.new w xs t hg
 ·exact h2.blk q hq
theorem S14.bare (h : Below w0.heap.size w0 w) : S14 w0 w [] [] := ⟨h, fun q hq => (by cases hq), fun q hq => (by cases hq)⟩
theorem S14.got {A : Option Addr} {n c a : Nat} (h : Hid (S14 w0 w l bs)) (hm : (A, n, c, a) ∈ l) : Num w w.heap.size A n c a := h.out.num _ hm
theorem S14.at_ {g : Nat} {xs : Array Value} {t : TypeId} (h : Hid (S14 w0 w l bs)) (hm : (g, xs, t) ∈ bs) (j : Nat) : w.cell? ⟨g, j, none⟩ = xs[j]? := (h.out.blk _ hm).cell j
theorem S14.c4 {g : Nat} {t : TypeId} {x0 x1 x2 x3 : Value} (h : Hid (S14 w0 w l bs)) (hm : (g, #[x0, x1, x2, x3], t) ∈ bs) : w.cell? ⟨g, 0, none⟩ = some x0 ∧ w.cell? ⟨g, 1, none⟩ = some x1 ∧ w.cell? ⟨g, 2, none⟩ = some x2 ∧ w.cell? ⟨g, 3, none⟩ = some x3 := ⟨S14.at_ h hm 0, S14.at_ h hm 1, S14.at_ h hm 2, S14.at_ h hm 3⟩
theorem S14.c5 {g : Nat} {t : TypeId} {x0 x1 x2 x3 x4 : Value} (h : Hid (S14 w0 w l bs)) (hm : (g, #[x0, x1, x2, x3, x4], t) ∈ bs) : w.cell? ⟨g, 0, none⟩ = some x0 ∧ w.cell? ⟨g, 1, none⟩ = some x1 ∧ w.cell? ⟨g, 2, none⟩ = some x2 ∧ w.cell? ⟨g, 3, none⟩ = some x3 ∧ w.cell? ⟨g, 4, none⟩ = some x4 := ⟨S14.at_ h hm 0, S14.at_ h hm 1, S14.at_ h hm 2, S14.at_ h hm 3, S14.at_ h hm 4⟩
theorem S14.c7 {g : Nat} {t : TypeId} {x0 x1 x2 x3 x4 x5 x6 : Value} (h : Hid (S14 w0 w l bs)) (hm : (g, #[x0, x1, x2, x3, x4, x5, x6], t) ∈ bs) : w.cell? ⟨g, 0, none⟩ = some x0 ∧ w.cell? ⟨g, 1, none⟩ = some x1 ∧ w.cell? ⟨g, 2, none⟩ = some x2 ∧ w.cell? ⟨g, 3, none⟩ = some x3 ∧ w.cell? ⟨g, 4, none⟩ = some x4 ∧ w.cell? ⟨g, 5, none⟩ = some x5 ∧ w.cell? ⟨g, 6, none⟩ = some x6 := ⟨S14.at_ h hm 0, S14.at_ h hm 1, S14.at_ h hm 2, S14.at_ h hm 3, S14.at_ h hm 4, S14.at_ h hm 5, S14.at_ h hm 6⟩
theorem S14.c11 {g : Nat} {t : TypeId} {x0 x1 x2 x3 x4 x5 x6 x7 x8 x9 x10 : Value} (h : Hid (S14 w0 w l bs)) (hm : (g, #[x0, x1, x2, x3, x4, x5, x6, x7, x8, x9, x10], t) ∈ bs) : w.cell? ⟨g, 0, none⟩ = some x0 ∧ w.cell? ⟨g, 1, none⟩ = some x1 ∧ w.cell? ⟨g, 2, none⟩ = some x2 ∧ w.cell? ⟨g, 3, none⟩ = some x3 ∧ w.cell? ⟨g, 4, none⟩ = some x4 ∧ w.cell? ⟨g, 5, none⟩ = some x5 ∧ w.cell? ⟨g, 6, none⟩ = some x6 ∧ w.cell? ⟨g, 7, none⟩ = some x7 ∧ w.cell? ⟨g, 8, none⟩ = some x8 ∧ w.cell? ⟨g, 9, none⟩ = some x9 ∧ w.cell? ⟨g, 10, none⟩ = some x10 := ⟨S14.at_ h hm 0, S14.at_ h hm 1, S14.at_ h hm 2, S14.at_ h hm 3, S14.at_ h hm 4, S14.at_ h hm 5, S14.at_ h hm 6, S14.at_ h hm 7, S14.at_ h hm 8, S14.at_ h hm 9, S14.at_ h hm 10⟩
end
theorem back14_law (RU : READU) (TU : TEXTU) (SU : SAMEU) (RC : READC) (TC : TEXTC) (SC : SAMEC) (RP : READP) (TP : TEXTP) (SP : SAMEP) (AW : AWK14) {w : World} (hok : Ok12 w) {A : Option Addr} {n c : Nat} {L : List Tk4} (hr : RdK w w.heap.size A n c L) : Calls Tryz.prog 3 #[.slice A n c] w (Ret9 w (.bool true)) := by
 have OK : Hid (∀ {W : World}, Below w.heap.size w W → Ok12 W) := fun hb => okw12 hok hb
 have RD : Hid (∀ {W : World}, Below w.heap.size w W → RdK W w.heap.size A n c L) := fun hb => hr.on (Nat.le_refl _) hb
 have HN : Hid (n = L.length) := hr.len
 have E := Lib.hid (S14.start w)
 clear hok hr
 go_enter Tryz.func3, Tryz.ntmps3
 go_wp2_with fail
 refine (few14 (RD.out E.out.bel) E.out.bel.size).mono ?_; rintro e w1 ⟨b, rfl, hF, hb⟩
 replace E := Lib.hid (E.out.step hb); clear hb
 cases b with
 | false =>
  go_wp2_with fail
  refine (AW _ (OK.out E.out.bel)).mono ?_; rintro e w2 ⟨rfl, hb⟩
  replace E := Lib.hid (E.out.step hb); clear hb
  go_wp2_with fail
  go_ret
  exact ⟨rfl, E.out.bel⟩
 | true =>
  have FL := Lib.hid (hF rfl)
  clear hF
  have SZ : Hid (Siz (L.map tok) (Grt (L.map tok))) := siz_many FL.out.2 (by have := FL.out.1; omega)
  have hn4 : n ≤ 400 := by have h1 := FL.out.1; rw [List.length_map] at h1; have := HN.out; omega
  have PL : Hid (plnB L = true → PrpL (L.map tok)) := pln_prp
  go_wp2_with fail
  obtain ⟨⟨⟨vb, vi, vk, vs⟩, p2, e2⟩, hU⟩ : ∃ x, resU (unt (L.map tok) 0) = x := ⟨_, rfl⟩
  have HU := Lib.hid hU
  clear hU
  refine (RU (RD.out E.out.bel) E.out.bel.size hn4 SZ.out (OK.out E.out.bel) HU.out).mono ?_; rintro e w2 ⟨A2, n2, c2, rfl, hn2, hb⟩
  replace E := Lib.hid (E.out.push hb hn2); clear hb hn2
  go_upto_if 35 with fail
  replace E := Lib.hid (E.out.lay #[.bool vb, .bool (ngB vi), .slice A2 n2 c2, .int .i64 (vk : Int), .string vs] 30 rfl)
  generalize hW : World.alloc w2 _ = W3 at E ⊢
  clear hW
  generalize w2.heap.size = g at E ⊢
  go_cut [] from 28 (fun wx => Below w.heap.size w wx)
  case first =>
   by_cases he : e2 = 0
   ·have d : ((e2 : Int) == 0) = true := by rw [he]; rfl
    have hu2 := HU.out
    rw [he] at hu2
    have HU2 := Lib.hid hu2
    clear he HU hu2
    obtain ⟨f1, f2, f3, f4, f5⟩ := u_few FL.out HU2.out
    dsimp only at f1 f2 f3
    obtain ⟨T, hT⟩ : ∃ T, txtU ⟨vb, vi, vk, vs⟩ = bs9 T := ⟨_, (bs9_st9 (txtU_lt _)).symm⟩
    have HT := Lib.hid hT
    have hTs : T.size ≤ 6000 := by rw [← bs9_len, ← hT]; exact f4
    have HF : Hid (Wgh.ws ((tks 1 (wdsOf (bs9 T))).map tok) ((tks 1 (wdsOf (bs9 T))).map tok).length ≤ 4010) := fit14 (by rw [← hT]; exact f5)
    have hn2 : n2 ≤ 900 := by have := (S14.got E (A := A2) (n := n2) (c := c2) (a := vi.natAbs) (by simp)).len; omega
    clear f4 f5 hT
    have q0 : W3.cell? ⟨g, 0, none⟩ = some (.bool vb) := S14.at_ E (xs := #[.bool vb, .bool (ngB vi), .slice A2 n2 c2, .int .i64 (vk : Int), .string vs]) (t := 30) List.mem_cons_self 0
    have q1 : W3.cell? ⟨g, 1, none⟩ = some (.bool (ngB vi)) := S14.at_ E (xs := #[.bool vb, .bool (ngB vi), .slice A2 n2 c2, .int .i64 (vk : Int), .string vs]) (t := 30) List.mem_cons_self 1
    have q2 : W3.cell? ⟨g, 2, none⟩ = some (.slice A2 n2 c2) := S14.at_ E (xs := #[.bool vb, .bool (ngB vi), .slice A2 n2 c2, .int .i64 (vk : Int), .string vs]) (t := 30) List.mem_cons_self 2
    have q3 : W3.cell? ⟨g, 3, none⟩ = some (.int .i64 (vk : Int)) := S14.at_ E (xs := #[.bool vb, .bool (ngB vi), .slice A2 n2 c2, .int .i64 (vk : Int), .string vs]) (t := 30) List.mem_cons_self 3
    have q4 : W3.cell? ⟨g, 4, none⟩ = some (.string vs) := S14.at_ E (xs := #[.bool vb, .bool (ngB vi), .slice A2 n2 c2, .int .i64 (vk : Int), .string vs]) (t := 30) List.mem_cons_self 4
    go_wp2_with fail
    clear q0 q1 q2 q3 q4
    refine (TU (v := ⟨vb, vi, vk, vs⟩) (S14.got E (A := A2) (n := n2) (c := c2) (a := vi.natAbs) (by simp)) hn2 f2 f3 (OK.out E.out.bel) HT.out).mono ?_; rintro e w4 ⟨rfl, hb⟩
    replace E := Lib.hid (E.out.step hb); clear hb
    go_wp2_with fail
    refine (words14 (OK.out E.out.bel) hTs).mono ?_; rintro e w5 ⟨A5, n5, c5, rfl, hr5, hb⟩
    replace E := Lib.hid (E.out.step hb); clear hb
    have R5 := Lib.hid hr5
    have hn5 : n5 ≤ 400 := by have h1 := ws_many (L := (tks 1 (wdsOf (bs9 T))).map tok) _ (Nat.le_refl _); have h2 := HF.out; have h3 := R5.out.len; rw [List.length_map] at h1 h2; omega
    have H5 : Hid (n5 = (wdsOf (bs9 T)).length) := by have h3 := R5.out.len; unfold tks at h3; rw [List.length_map] at h3; exact h3
    clear hr5
    go_wp2_with fail
    cases hpl : plnB L with
    | true =>
     have HPL : Hid (plnB L = true) := hpl
     clear hpl
     have HB := Lib.hid (u_back (PL.out HPL.out) HU2.out HT.out)
     rw [← H5.out] at HB
     refine (RU R5.out (Nat.le_refl _) hn5 (siz_weight HF.out) (OK.out E.out.bel) HB.out).mono ?_; rintro e w6 ⟨A6, n6, c6, rfl, hn6, hb⟩
     replace E := Lib.hid (E.out.push hb hn6); clear hb hn6
     have hn6 : n6 ≤ 900 := by have := (S14.got E (A := A6) (n := n6) (c := c6) (a := vi.natAbs) (by simp)).len; omega
     go_upto_region 7 with fail
     replace E := Lib.hid (E.out.lay #[.bool vb, .bool (ngB vi), .slice A6 n6 c6, .int .i64 (vk : Int), .string vs] 30 rfl)
     generalize hW : World.alloc w6 _ = W7 at E ⊢
     clear hW
     generalize w6.heap.size = g7 at E ⊢
     go_wp2_with fail
     refine (plain14 (OK.out E.out.bel) (RD.out E.out.bel) E.out.bel.size FL.out).mono ?_; rw [HPL.out]; rintro e w8 ⟨rfl, hb⟩
     replace E := Lib.hid (E.out.step hb); clear hb
     obtain ⟨q0, q1, q2, q3, q4⟩ := S14.c5 (g := g) E (List.mem_cons_of_mem _ List.mem_cons_self)
     obtain ⟨r0, r1, r2, r3, r4⟩ := S14.c5 (g := g7) E List.mem_cons_self
     go_wp2_with fail
     clear q0 r0 q1 r1 q2 r2 q3 r3 q4 r4
     refine (SU (v := ⟨vb, vi, vk, vs⟩) (v' := ⟨vb, vi, vk, vs⟩) (S14.got E (A := A2) (n := n2) (c := c2) (a := vi.natAbs) (by simp)) (S14.got E (A := A6) (n := n6) (c := c6) (a := vi.natAbs) (by simp)) (OK.out E.out.bel) (sameU_refl _)).mono ?_; rintro e w9 ⟨rfl, hb⟩
     replace E := Lib.hid (E.out.step hb); clear hb
     go_wp2_with fail
     go_meet
     case rel => exact E.out.bel
    | false =>
     have HPL : Hid (plnB L = false) := hpl
     clear hpl
     obtain ⟨⟨⟨xb, xi, xk, xs⟩, p6, e6⟩, hx⟩ : ∃ x, resU (unt ((tks 1 (wdsOf (bs9 T))).map tok) 0) = x := ⟨_, rfl⟩
     have HB := Lib.hid hx
     clear hx
     refine (RU R5.out (Nat.le_refl _) hn5 (siz_weight HF.out) (OK.out E.out.bel) HB.out).mono ?_; rintro e w6 ⟨A6, n6, c6, rfl, hn6, hb⟩
     replace E := Lib.hid (E.out.push hb hn6); clear hb hn6
     go_upto_region 7 with fail
     replace E := Lib.hid (E.out.lay #[.bool xb, .bool (ngB xi), .slice A6 n6 c6, .int .i64 (xk : Int), .string xs] 30 rfl)
     generalize hW : World.alloc w6 _ = W7 at E ⊢
     clear hW
     generalize w6.heap.size = g7 at E ⊢
     go_wp2_with fail
     refine (plain14 (OK.out E.out.bel) (RD.out E.out.bel) E.out.bel.size FL.out).mono ?_; rw [HPL.out]; rintro e w8 ⟨rfl, hb⟩
     replace E := Lib.hid (E.out.step hb); clear hb
     go_wp2_with fail
     go_meet
     case rel => exact E.out.bel
   ·have d : ((e2 : Int) == 0) = false := by rw [beq_eq_false_iff_ne]; omega
    go_wp2_with fail
    go_meet
    case rel => exact E.out.bel
  case rest =>
   clear E
   have E := Lib.hid (S14.bare hcut)
   clear hcut
   go_wp2_with fail
   obtain ⟨⟨⟨vh, vt, vb, vi, vk, vs, vy, vm, vd, vl⟩, p2, e2⟩, hU⟩ : ∃ x, resC (cst (L.map tok) 0) = x := ⟨_, rfl⟩
   have HU := Lib.hid hU
   clear hU
   refine (RC (RD.out E.out.bel) E.out.bel.size hn4 SZ.out (OK.out E.out.bel) HU.out).mono ?_; rintro e w2 ⟨A2, n2, c2, rfl, hn2, hb⟩
   replace E := Lib.hid (E.out.push hb hn2); clear hb hn2
   go_upto_if 70 with fail
   replace E := Lib.hid (E.out.lay #[.bool vh, .bool vt, .bool vb, .bool (ngB vi), .slice A2 n2 c2, .int .i64 (vk : Int), .string vs, .int .i64 vy, .int .i64 vm, .int .i64 vd, .string vl] 40 rfl)
   generalize hW : World.alloc w2 _ = W3 at E ⊢
   clear hW
   generalize w2.heap.size = g at E ⊢
   go_cut [] from 63 (fun wx => Below w.heap.size w wx)
   case first =>
    by_cases he : e2 = 0
    ·have d : ((e2 : Int) == 0) = true := by rw [he]; rfl
     have hu2 := HU.out
     rw [he] at hu2
     have HU2 := Lib.hid hu2
     clear he HU hu2
     obtain ⟨f1, f2, f3, f6, f4, f5⟩ := c_few FL.out HU2.out
     dsimp only at f1 f2 f3
     obtain ⟨T, hT⟩ : ∃ T, txtC ⟨vh, vt, vb, vi, vk, vs, vy, vm, vd, vl⟩ = bs9 T := ⟨_, (bs9_st9 (txtC_lt _)).symm⟩
     have HT := Lib.hid hT
     have hTs : T.size ≤ 6000 := by rw [← bs9_len, ← hT]; exact f4
     have HF : Hid (Wgh.ws ((tks 1 (wdsOf (bs9 T))).map tok) ((tks 1 (wdsOf (bs9 T))).map tok).length ≤ 4010) := fit14 (by rw [← hT]; exact f5)
     have hn2 : n2 ≤ 900 := by have := (S14.got E (A := A2) (n := n2) (c := c2) (a := vi.natAbs) (by simp)).len; omega
     clear f4 f5 hT
     have q0 : W3.cell? ⟨g, 0, none⟩ = some (.bool vh) := S14.at_ E (xs := #[.bool vh, .bool vt, .bool vb, .bool (ngB vi), .slice A2 n2 c2, .int .i64 (vk : Int), .string vs, .int .i64 vy, .int .i64 vm, .int .i64 vd, .string vl]) (t := 40) List.mem_cons_self 0
     have q1 : W3.cell? ⟨g, 1, none⟩ = some (.bool vt) := S14.at_ E (xs := #[.bool vh, .bool vt, .bool vb, .bool (ngB vi), .slice A2 n2 c2, .int .i64 (vk : Int), .string vs, .int .i64 vy, .int .i64 vm, .int .i64 vd, .string vl]) (t := 40) List.mem_cons_self 1
     have q2 : W3.cell? ⟨g, 2, none⟩ = some (.bool vb) := S14.at_ E (xs := #[.bool vh, .bool vt, .bool vb, .bool (ngB vi), .slice A2 n2 c2, .int .i64 (vk : Int), .string vs, .int .i64 vy, .int .i64 vm, .int .i64 vd, .string vl]) (t := 40) List.mem_cons_self 2
     have q3 : W3.cell? ⟨g, 3, none⟩ = some (.bool (ngB vi)) := S14.at_ E (xs := #[.bool vh, .bool vt, .bool vb, .bool (ngB vi), .slice A2 n2 c2, .int .i64 (vk : Int), .string vs, .int .i64 vy, .int .i64 vm, .int .i64 vd, .string vl]) (t := 40) List.mem_cons_self 3
     have q4 : W3.cell? ⟨g, 4, none⟩ = some (.slice A2 n2 c2) := S14.at_ E (xs := #[.bool vh, .bool vt, .bool vb, .bool (ngB vi), .slice A2 n2 c2, .int .i64 (vk : Int), .string vs, .int .i64 vy, .int .i64 vm, .int .i64 vd, .string vl]) (t := 40) List.mem_cons_self 4
     have q5 : W3.cell? ⟨g, 5, none⟩ = some (.int .i64 (vk : Int)) := S14.at_ E (xs := #[.bool vh, .bool vt, .bool vb, .bool (ngB vi), .slice A2 n2 c2, .int .i64 (vk : Int), .string vs, .int .i64 vy, .int .i64 vm, .int .i64 vd, .string vl]) (t := 40) List.mem_cons_self 5
     have q6 : W3.cell? ⟨g, 6, none⟩ = some (.string vs) := S14.at_ E (xs := #[.bool vh, .bool vt, .bool vb, .bool (ngB vi), .slice A2 n2 c2, .int .i64 (vk : Int), .string vs, .int .i64 vy, .int .i64 vm, .int .i64 vd, .string vl]) (t := 40) List.mem_cons_self 6
     have q7 : W3.cell? ⟨g, 7, none⟩ = some (.int .i64 vy) := S14.at_ E (xs := #[.bool vh, .bool vt, .bool vb, .bool (ngB vi), .slice A2 n2 c2, .int .i64 (vk : Int), .string vs, .int .i64 vy, .int .i64 vm, .int .i64 vd, .string vl]) (t := 40) List.mem_cons_self 7
     have q8 : W3.cell? ⟨g, 8, none⟩ = some (.int .i64 vm) := S14.at_ E (xs := #[.bool vh, .bool vt, .bool vb, .bool (ngB vi), .slice A2 n2 c2, .int .i64 (vk : Int), .string vs, .int .i64 vy, .int .i64 vm, .int .i64 vd, .string vl]) (t := 40) List.mem_cons_self 8
     have q9 : W3.cell? ⟨g, 9, none⟩ = some (.int .i64 vd) := S14.at_ E (xs := #[.bool vh, .bool vt, .bool vb, .bool (ngB vi), .slice A2 n2 c2, .int .i64 (vk : Int), .string vs, .int .i64 vy, .int .i64 vm, .int .i64 vd, .string vl]) (t := 40) List.mem_cons_self 9
     have q10 : W3.cell? ⟨g, 10, none⟩ = some (.string vl) := S14.at_ E (xs := #[.bool vh, .bool vt, .bool vb, .bool (ngB vi), .slice A2 n2 c2, .int .i64 (vk : Int), .string vs, .int .i64 vy, .int .i64 vm, .int .i64 vd, .string vl]) (t := 40) List.mem_cons_self 10
     go_wp2_with fail
     clear q0 q1 q2 q3 q4 q5 q6 q7 q8 q9 q10
     refine (TC (v := ⟨vh, vt, vb, vi, vk, vs, vy, vm, vd, vl⟩) (S14.got E (A := A2) (n := n2) (c := c2) (a := vi.natAbs) (by simp)) hn2 f2 f3 f6 (OK.out E.out.bel) HT.out).mono ?_; rintro e w4 ⟨rfl, hb⟩
     replace E := Lib.hid (E.out.step hb); clear hb
     go_wp2_with fail
     refine (words14 (OK.out E.out.bel) hTs).mono ?_; rintro e w5 ⟨A5, n5, c5, rfl, hr5, hb⟩
     replace E := Lib.hid (E.out.step hb); clear hb
     have R5 := Lib.hid hr5
     have hn5 : n5 ≤ 400 := by have h1 := ws_many (L := (tks 1 (wdsOf (bs9 T))).map tok) _ (Nat.le_refl _); have h2 := HF.out; have h3 := R5.out.len; rw [List.length_map] at h1 h2; omega
     have H5 : Hid (n5 = (wdsOf (bs9 T)).length) := by have h3 := R5.out.len; unfold tks at h3; rw [List.length_map] at h3; exact h3
     clear hr5
     go_wp2_with fail
     cases hpl : plnB L with
     | true =>
      have HPL : Hid (plnB L = true) := hpl
      clear hpl
      have HB := Lib.hid (c_back (PL.out HPL.out) HU2.out HT.out)
      rw [← H5.out] at HB
      refine (RC R5.out (Nat.le_refl _) hn5 (siz_weight HF.out) (OK.out E.out.bel) HB.out).mono ?_; rintro e w6 ⟨A6, n6, c6, rfl, hn6, hb⟩
      replace E := Lib.hid (E.out.push hb hn6); clear hb hn6
      have hn6 : n6 ≤ 900 := by have := (S14.got E (A := A6) (n := n6) (c := c6) (a := vi.natAbs) (by simp)).len; omega
      go_upto_region 13 with fail
      replace E := Lib.hid (E.out.lay #[.bool vh, .bool vt, .bool vb, .bool (ngB vi), .slice A6 n6 c6, .int .i64 (vk : Int), .string vs, .int .i64 vy, .int .i64 vm, .int .i64 vd, .string vl] 40 rfl)
      generalize hW : World.alloc w6 _ = W7 at E ⊢
      clear hW
      generalize w6.heap.size = g7 at E ⊢
      go_wp2_with fail
      refine (plain14 (OK.out E.out.bel) (RD.out E.out.bel) E.out.bel.size FL.out).mono ?_; rw [HPL.out]; rintro e w8 ⟨rfl, hb⟩
      replace E := Lib.hid (E.out.step hb); clear hb
      obtain ⟨q0, q1, q2, q3, q4, q5, q6, q7, q8, q9, q10⟩ := S14.c11 (g := g) E (List.mem_cons_of_mem _ List.mem_cons_self)
      obtain ⟨r0, r1, r2, r3, r4, r5, r6, r7, r8, r9, r10⟩ := S14.c11 (g := g7) E List.mem_cons_self
      go_wp2_with fail
      clear q0 r0 q1 r1 q2 r2 q3 r3 q4 r4 q5 r5 q6 r6 q7 r7 q8 r8 q9 r9 q10 r10
      refine (SC (v := ⟨vh, vt, vb, vi, vk, vs, vy, vm, vd, vl⟩) (v' := ⟨vh, vt, vb, vi, vk, vs, vy, vm, vd, vl⟩) (S14.got E (A := A2) (n := n2) (c := c2) (a := vi.natAbs) (by simp)) (S14.got E (A := A6) (n := n6) (c := c6) (a := vi.natAbs) (by simp)) (OK.out E.out.bel) (sameC_refl _)).mono ?_; rintro e w9 ⟨rfl, hb⟩
      replace E := Lib.hid (E.out.step hb); clear hb
      go_wp2_with fail
      go_meet
      case rel => exact E.out.bel
     | false =>
      have HPL : Hid (plnB L = false) := hpl
      clear hpl
      obtain ⟨⟨⟨xh, xt, xb, xi, xk, xs, xy, xm, xd, xl⟩, p6, e6⟩, hx⟩ : ∃ x, resC (cst ((tks 1 (wdsOf (bs9 T))).map tok) 0) = x := ⟨_, rfl⟩
      have HB := Lib.hid hx
      clear hx
      refine (RC R5.out (Nat.le_refl _) hn5 (siz_weight HF.out) (OK.out E.out.bel) HB.out).mono ?_; rintro e w6 ⟨A6, n6, c6, rfl, hn6, hb⟩
      replace E := Lib.hid (E.out.push hb hn6); clear hb hn6
      go_upto_region 13 with fail
      replace E := Lib.hid (E.out.lay #[.bool xh, .bool xt, .bool xb, .bool (ngB xi), .slice A6 n6 c6, .int .i64 (xk : Int), .string xs, .int .i64 xy, .int .i64 xm, .int .i64 xd, .string xl] 40 rfl)
      generalize hW : World.alloc w6 _ = W7 at E ⊢
      clear hW
      generalize w6.heap.size = g7 at E ⊢
      go_wp2_with fail
      refine (plain14 (OK.out E.out.bel) (RD.out E.out.bel) E.out.bel.size FL.out).mono ?_; rw [HPL.out]; rintro e w8 ⟨rfl, hb⟩
      replace E := Lib.hid (E.out.step hb); clear hb
      go_wp2_with fail
      go_meet
      case rel => exact E.out.bel
    ·have d : ((e2 : Int) == 0) = false := by rw [beq_eq_false_iff_ne]; omega
     go_wp2_with fail
     go_meet
     case rel => exact E.out.bel
   case rest =>
    clear E
    have E := Lib.hid (S14.bare hcut)
    clear hcut
    go_wp2_with fail
    obtain ⟨⟨⟨vh, vt, vb, vi, vk, vs⟩, p2, e2⟩, hU⟩ : ∃ x, resP (prc (L.map tok) 0) = x := ⟨_, rfl⟩
    have HU := Lib.hid hU
    clear hU
    refine (RP (RD.out E.out.bel) E.out.bel.size hn4 SZ.out (OK.out E.out.bel) HU.out).mono ?_; rintro e w2 ⟨A2, n2, c2, rfl, hn2, hb⟩
    replace E := Lib.hid (E.out.push hb hn2); clear hb hn2
    go_upto_if 105 with fail
    replace E := Lib.hid (E.out.lay #[.bool vh, .bool vt, .bool vb, .bool (ngB vi), .slice A2 n2 c2, .int .i64 (vk : Int), .string vs] 46 rfl)
    generalize hW : World.alloc w2 _ = W3 at E ⊢
    clear hW
    generalize w2.heap.size = g at E ⊢
    go_cut [] from 98 (fun wx => Below w.heap.size w wx)
    case first =>
     by_cases he : e2 = 0
     ·have d : ((e2 : Int) == 0) = true := by rw [he]; rfl
      have hu2 := HU.out
      rw [he] at hu2
      have HU2 := Lib.hid hu2
      clear he HU hu2
      obtain ⟨f1, f2, f3, f4, f5⟩ := p_few FL.out HU2.out
      dsimp only at f1 f2 f3
      obtain ⟨T, hT⟩ : ∃ T, txtP ⟨vh, vt, vb, vi, vk, vs⟩ = bs9 T := ⟨_, (bs9_st9 (txtP_lt _)).symm⟩
      have HT := Lib.hid hT
      have hTs : T.size ≤ 6000 := by rw [← bs9_len, ← hT]; exact f4
      have HF : Hid (Wgh.ws ((tks 1 (wdsOf (bs9 T))).map tok) ((tks 1 (wdsOf (bs9 T))).map tok).length ≤ 4010) := fit14 (by rw [← hT]; exact f5)
      have hn2 : n2 ≤ 900 := by have := (S14.got E (A := A2) (n := n2) (c := c2) (a := vi.natAbs) (by simp)).len; omega
      clear f4 f5 hT
      have q0 : W3.cell? ⟨g, 0, none⟩ = some (.bool vh) := S14.at_ E (xs := #[.bool vh, .bool vt, .bool vb, .bool (ngB vi), .slice A2 n2 c2, .int .i64 (vk : Int), .string vs]) (t := 46) List.mem_cons_self 0
      have q1 : W3.cell? ⟨g, 1, none⟩ = some (.bool vt) := S14.at_ E (xs := #[.bool vh, .bool vt, .bool vb, .bool (ngB vi), .slice A2 n2 c2, .int .i64 (vk : Int), .string vs]) (t := 46) List.mem_cons_self 1
      have q2 : W3.cell? ⟨g, 2, none⟩ = some (.bool vb) := S14.at_ E (xs := #[.bool vh, .bool vt, .bool vb, .bool (ngB vi), .slice A2 n2 c2, .int .i64 (vk : Int), .string vs]) (t := 46) List.mem_cons_self 2
      have q3 : W3.cell? ⟨g, 3, none⟩ = some (.bool (ngB vi)) := S14.at_ E (xs := #[.bool vh, .bool vt, .bool vb, .bool (ngB vi), .slice A2 n2 c2, .int .i64 (vk : Int), .string vs]) (t := 46) List.mem_cons_self 3
      have q4 : W3.cell? ⟨g, 4, none⟩ = some (.slice A2 n2 c2) := S14.at_ E (xs := #[.bool vh, .bool vt, .bool vb, .bool (ngB vi), .slice A2 n2 c2, .int .i64 (vk : Int), .string vs]) (t := 46) List.mem_cons_self 4
      have q5 : W3.cell? ⟨g, 5, none⟩ = some (.int .i64 (vk : Int)) := S14.at_ E (xs := #[.bool vh, .bool vt, .bool vb, .bool (ngB vi), .slice A2 n2 c2, .int .i64 (vk : Int), .string vs]) (t := 46) List.mem_cons_self 5
      have q6 : W3.cell? ⟨g, 6, none⟩ = some (.string vs) := S14.at_ E (xs := #[.bool vh, .bool vt, .bool vb, .bool (ngB vi), .slice A2 n2 c2, .int .i64 (vk : Int), .string vs]) (t := 46) List.mem_cons_self 6
      go_wp2_with fail
      clear q0 q1 q2 q3 q4 q5 q6
      refine (TP (v := ⟨vh, vt, vb, vi, vk, vs⟩) (S14.got E (A := A2) (n := n2) (c := c2) (a := vi.natAbs) (by simp)) hn2 f2 f3 (OK.out E.out.bel) HT.out).mono ?_; rintro e w4 ⟨rfl, hb⟩
      replace E := Lib.hid (E.out.step hb); clear hb
      go_wp2_with fail
      refine (words14 (OK.out E.out.bel) hTs).mono ?_; rintro e w5 ⟨A5, n5, c5, rfl, hr5, hb⟩
      replace E := Lib.hid (E.out.step hb); clear hb
      have R5 := Lib.hid hr5
      have hn5 : n5 ≤ 400 := by have h1 := ws_many (L := (tks 1 (wdsOf (bs9 T))).map tok) _ (Nat.le_refl _); have h2 := HF.out; have h3 := R5.out.len; rw [List.length_map] at h1 h2; omega
      have H5 : Hid (n5 = (wdsOf (bs9 T)).length) := by have h3 := R5.out.len; unfold tks at h3; rw [List.length_map] at h3; exact h3
      clear hr5
      go_wp2_with fail
      cases hpl : plnB L with
      | true =>
       have HPL : Hid (plnB L = true) := hpl
       clear hpl
       have HB := Lib.hid (p_back (PL.out HPL.out) HU2.out HT.out)
       rw [← H5.out] at HB
       refine (RP R5.out (Nat.le_refl _) hn5 (siz_weight HF.out) (OK.out E.out.bel) HB.out).mono ?_; rintro e w6 ⟨A6, n6, c6, rfl, hn6, hb⟩
       replace E := Lib.hid (E.out.push hb hn6); clear hb hn6
       have hn6 : n6 ≤ 900 := by have := (S14.got E (A := A6) (n := n6) (c := c6) (a := vi.natAbs) (by simp)).len; omega
       go_upto_region 19 with fail
       replace E := Lib.hid (E.out.lay #[.bool vh, .bool vt, .bool vb, .bool (ngB vi), .slice A6 n6 c6, .int .i64 (vk : Int), .string vs] 46 rfl)
       generalize hW : World.alloc w6 _ = W7 at E ⊢
       clear hW
       generalize w6.heap.size = g7 at E ⊢
       go_wp2_with fail
       refine (plain14 (OK.out E.out.bel) (RD.out E.out.bel) E.out.bel.size FL.out).mono ?_; rw [HPL.out]; rintro e w8 ⟨rfl, hb⟩
       replace E := Lib.hid (E.out.step hb); clear hb
       obtain ⟨q0, q1, q2, q3, q4, q5, q6⟩ := S14.c7 (g := g) E (List.mem_cons_of_mem _ List.mem_cons_self)
       obtain ⟨r0, r1, r2, r3, r4, r5, r6⟩ := S14.c7 (g := g7) E List.mem_cons_self
       go_wp2_with fail
       clear q0 r0 q1 r1 q2 r2 q3 r3 q4 r4 q5 r5 q6 r6
       refine (SP (v := ⟨vh, vt, vb, vi, vk, vs⟩) (v' := ⟨vh, vt, vb, vi, vk, vs⟩) (S14.got E (A := A2) (n := n2) (c := c2) (a := vi.natAbs) (by simp)) (S14.got E (A := A6) (n := n6) (c := c6) (a := vi.natAbs) (by simp)) (OK.out E.out.bel) (sameP_refl _)).mono ?_; rintro e w9 ⟨rfl, hb⟩
       replace E := Lib.hid (E.out.step hb); clear hb
       go_wp2_with fail
       go_meet
       case rel => exact E.out.bel
      | false =>
       have HPL : Hid (plnB L = false) := hpl
       clear hpl
       obtain ⟨⟨⟨xh, xt, xb, xi, xk, xs⟩, p6, e6⟩, hx⟩ : ∃ x, resP (prc ((tks 1 (wdsOf (bs9 T))).map tok) 0) = x := ⟨_, rfl⟩
       have HB := Lib.hid hx
       clear hx
       refine (RP R5.out (Nat.le_refl _) hn5 (siz_weight HF.out) (OK.out E.out.bel) HB.out).mono ?_; rintro e w6 ⟨A6, n6, c6, rfl, hn6, hb⟩
       replace E := Lib.hid (E.out.push hb hn6); clear hb hn6
       go_upto_region 19 with fail
       replace E := Lib.hid (E.out.lay #[.bool xh, .bool xt, .bool xb, .bool (ngB xi), .slice A6 n6 c6, .int .i64 (xk : Int), .string xs] 46 rfl)
       generalize hW : World.alloc w6 _ = W7 at E ⊢
       clear hW
       generalize w6.heap.size = g7 at E ⊢
       go_wp2_with fail
       refine (plain14 (OK.out E.out.bel) (RD.out E.out.bel) E.out.bel.size FL.out).mono ?_; rw [HPL.out]; rintro e w8 ⟨rfl, hb⟩
       replace E := Lib.hid (E.out.step hb); clear hb
       go_wp2_with fail
       go_meet
       case rel => exact E.out.bel
     ·have d : ((e2 : Int) == 0) = false := by rw [beq_eq_false_iff_ne]; omega
      go_wp2_with fail
      go_meet
      case rel => exact E.out.bel
    case rest =>
     clear E
     have E := Lib.hid (S14.bare hcut)
     clear hcut
     go_wp2_with fail
     refine (AW _ (OK.out E.out.bel)).mono ?_; rintro e w2 ⟨rfl, hb⟩
     replace E := Lib.hid (E.out.step hb); clear hb
     go_wp2_with fail
     go_ret
     exact ⟨rfl, E.out.bel⟩
end Go.Proofs.YtjonoedomgacaaaGreatDoor.Num
