/- What the proof needs, texts ExpN, ExpO, ExpT, ExpU, ExpW, ExpX, ExpY, ExpZ, ExpQ, ExpR, ExpS, in one text. -/
import Derived.Test.YtdpkbglfebimcaaGreatDoorAll35
import Derived.Test.YtdpkbglfebimcaaGreatDoorAll36
import Derived.Test.YtdpkbglfebimcaaGreatDoorAll34
import Derived.Test.YtdpkbglfebimcaaGreatDoorAll27
set_option linter.unusedVariables false
set_option linter.unusedSimpArgs false
set_option maxRecDepth 100000
set_option maxHeartbeats 32000000
namespace Go.Proofs.YtdpkbglfebimcaaGreatDoor.Num
open Go.RowKit
def tks (no : Int) (ts : List Wd) : List Tk4 := ts.map fun t => ((t.1 : Int), st9 t.2.1, no, (t.2.2 : Int))
theorem rowK_tks (no : Int) : ∀ ts : List Wd, rowK (tks no ts) = rowT no ts
 | [] => rfl
 | t :: ts => by
  show rowK (((t.1 : Int), st9 t.2.1, no, (t.2.2 : Int)) :: tks no ts) = _
  rw [rowK, rowK_tks no ts, rowT]
theorem rdK_of {w : World} {A : Option Addr} {n c : Nat} {no : Int} {ts : List Wd} (h : RdT w A n c no ts) : RdK w w.heap.size A n c (tks no ts) := by
 obtain ⟨h1, h2, h3, h4⟩ := h
 refine ⟨by rw [h1]; unfold tks; rw [List.length_map], h2, h3, ?_⟩
 rcases h4 with rfl | ⟨b, o, h4, h5, h6⟩
 ·exact .inl rfl
 ·exact .inr ⟨b, o, h4, h5, by rw [rowK_tks]; exact h6⟩
theorem words13 {w : World} {s : ByteArray} {ts : List Wd} (hok : Ok12 w) (hs : s.size ≤ 1000) (h : WD D12 N12 0 (bs9 s) = .inr ts) :
  Calls Tryz.prog 17 #[.string s] w (fun e w' => ∃ A c, e = .returned (.slice A ts.length c) ∧ RdK w' w'.heap.size A ts.length c (tks 1 ts) ∧ Below w.heap.size w w') := by
 have HW := Lib.hid (lexwords_is okw12 dayok12 (fun _ h hs => lexunquote_is h hs _) o08 o07 o11 1 s hs w hok)
 rw [h] at HW
 clear hok
 go_enter Tryz.func17, Tryz.ntmps17
 go_wp2_with fail
 refine HW.out.mono ?_
 rintro e v ⟨⟨A, c, rfl, hr⟩, hb⟩
 have R1 := Lib.hid hr
 have E := Lib.hid hb
 clear hr hb
 go_wp2_with fail
 go_ret
 have hb2 := (Below.refl v.heap.size v).alloc (Nat.le_refl _) (.cells #[.int .i64 0, .int .i64 0, .int .i64 0] 67)
 exact ⟨_, _, rfl, rdK_of (R1.out.on hb2), E.out.alloc E.out.size _⟩
def EVL (ok : World → Prop) : Prop := ∀ {w : World} {B n c : Nat} {A : Option Addr} {L : List Tk4} (a : Int), RdK w B A n c L → B ≤ w.heap.size → n ≤ 200 → (∀ t ∈ L.map tok, t.2.size ≤ 30) → ok w → Calls Tryz.prog 9 #[.slice A n c, .int .i64 a] w (RetE w (evl (L.map tok) a))
def quv (i : Int) (s : Nat) (j : Int) (t : Nat) : Int × Nat × Nat := if j = 0 then (0, 0, 4) else (quoI i s j t, quoK i s j t, 0)
def RetQ (w : World) (r : Int × Nat × Nat) (e : Ending) (w' : World) : Prop :=
 ∃ (A : Option Addr) (n c : Nat), e = .returned (.tuple #[.agg #[.bool (ngB r.1), .slice A n c, .int .i64 (r.2.1 : Int)], .int .i64 (r.2.2 : Int)]) ∧ Num w' w'.heap.size A n c r.1.natAbs ∧ Below w.heap.size w w'
def QUO (ok : World → Prop) : Prop := ∀ {w : World} {A A' : Option Addr} {n c n' c' s t : Nat} {i j : Int}, Num w w.heap.size A n c i.natAbs → Num w w.heap.size A' n' c' j.natAbs → n ≤ 12 → n' ≤ 12 → s ≤ 60 → t ≤ 60 → ok w → Calls Tryz.prog 11 #[.agg #[.bool (ngB i), .slice A n c, .int .i64 (s : Int)], .agg #[.bool (ngB j), .slice A' n' c', .int .i64 (t : Int)]] w (RetQ w (quv i s j t))
def STS (ok : World → Prop) : Prop := ∀ {k : Int} {T : ByteArray} (l c : Int) {w : World}, ok w → Calls Tryz.prog 13 #[.agg #[.int .i64 k, .string T, .int .i64 l, .int .i64 c]] w (Ret9 w (.bool (sta (k, T))))
theorem refquo13 {w : World} {A A' : Option Addr} {n c n' c' s t : Nat} {i j : Int} (h : Num w w.heap.size A n c i.natAbs) (h' : Num w w.heap.size A' n' c' j.natAbs) (hn : n ≤ 12) (hn' : n' ≤ 12) (hs : s ≤ 60) (ht : t ≤ 60) :
  Calls Tryz.prog 12 #[.agg #[.bool (ngB i), .slice A n c, .int .i64 (s : Int)], .agg #[.bool (ngB j), .slice A' n' c', .int .i64 (t : Int)]] w (RetQ w (quv i s j t)) := by
 unfold quv
 by_cases hj : j = 0
 ·rw [if_pos hj]
  exact (quo_no h h' (by omega) (by omega) (by omega) (by omega) hj).mono fun e w' q => ⟨none, 0, 0, q.1, num_zero _ _, q.2⟩
 ·rw [if_neg hj]
  have hl : (dg (quoQ i s j t).natAbs).length ≤ 1000 := by
   have := (quoQ_size (t := t) (Sz.of_len (x := i) (s := s) (n := 12) (by have := h.len; omega)) hj).nine
   omega
  exact (quo_yes h h' (by omega) (by omega) (by omega) (by omega) hj hl).mono fun e w' q => q
theorem wd_a : WD D12 N12 0 [49, 46, 53, 32, 43, 32, 50, 32, 42, 32, 51, 32, 85, 83, 68] = .inr [(4, [49, 46, 53], 1), (10, [43], 5), (4, [50], 7), (10, [42], 9), (4, [51], 11), (3, [85, 83, 68], 13)] := by kernel_rfl
theorem wd_b : WD D12 N12 0 [45, 40, 49, 32, 45, 32, 52, 41, 32, 47, 32, 56] = .inr [(10, [45], 1), (10, [40], 2), (4, [49], 3), (10, [45], 5), (4, [52], 7), (10, [41], 8), (10, [47], 10), (4, [56], 12)] := by kernel_rfl
theorem wd_c : WD D12 N12 0 [49, 32, 47, 32, 40, 50, 32, 45, 32, 50, 41] = .inr [(4, [49], 1), (10, [47], 3), (10, [40], 5), (4, [50], 6), (10, [45], 8), (4, [50], 10), (10, [41], 11)] := by kernel_rfl
theorem wd_d : WD D12 N12 0 [40, 49] = .inr [(10, [40], 1), (4, [49], 2)] := by kernel_rfl
theorem wd_e : WD D12 N12 0 [45] = .inr [(10, [45], 1)] := by kernel_rfl
theorem wd_f : WD D12 N12 0 [42] = .inr [(10, [42], 1)] := by kernel_rfl
theorem qu_13 : quv 1 0 3 0 = (3333333333, 10, 0) := by kernel_rfl
def StP (w : World) (g : Nat) (A : Option Addr) (n c : Nat) (a d : Nat) : Prop := w.heap[g]? = some (.cells #[.slice A n c, .int .i64 (a : Int), .int .i64 (d : Int)] 53 (0, 0))
section
variable {w w' : World} {g n c a d : Nat} {A : Option Addr}
theorem StP.lt (h : StP w g A n c a d) : g < w.heap.size := by
 rcases Nat.lt_or_ge g w.heap.size with h1 | h1
 ·exact h1
 ·unfold StP at h; rw [Array.getElem?_eq_none h1] at h; cases h
theorem StP.bx (h : StP w g A n c a d) : Box w g (.slice A n c) (.int .i64 (a : Int)) (.int .i64 (d : Int)) := by
 have hc := fun j => cell_of_row w g j _ _ _ h
 have hf : ∀ j, w.frozen? ⟨g, j, none⟩ = false := fun j => by
  have h2 : w.heap[g]? = some (.cells #[.slice A n c, .int .i64 (a : Int), .int .i64 (d : Int)] 53 (0, 0)) := h
  simp [World.frozen?, h2]
 exact ⟨hc 0, hc 1, hc 2, hf 0, hf 1, hf 2, h.lt⟩
theorem StP.set1 (h : StP w g A n c a d) (x : Nat) : StP (w.setCell ⟨g, 1, none⟩ (.int .i64 (x : Int))) g A n c x d := heap_setCell_same w g 1 _ _ _ h
theorem StP.set2 (h : StP w g A n c a d) (x : Nat) : StP (w.setCell ⟨g, 2, none⟩ (.int .i64 (x : Int))) g A n c a x := heap_setCell_same w g 2 _ _ _ h
theorem StP.on (h : StP w g A n c a d) (hb : Below w.heap.size w w') : StP w' g A n c a d := (hb.block g h.lt).trans h
theorem StP.noLimb (h : StP w g A n c a d) {j : Nat} {x : Nat} (hx : w.cell? ⟨g, j, none⟩ = some (.int .u32 (x : Int))) : False := by
 rw [cell_of_row w g j _ _ _ h] at hx
 rcases j with _ | _ | _ | j
 ·cases hx
 ·cases hx
 ·cases hx
 ·simp at hx
theorem Lim.kpP {B m k : Nat} {A' : Option Addr} {xs : List Nat} (h : Lim w B A' m k xs) (hs : StP w g A n c a d) (hB : B ≤ w.heap.size) (hk : Kp g none w w') : Lim w' B A' m k xs := by
 refine ⟨h.len, h.cap, h.room, h.fit, ?_, h.addr⟩
 rcases h.row with h' | ⟨b, o, rfl, hb, hc⟩
 ·exact .inl h'
 ·refine .inr ⟨b, o, rfl, hb, fun j u hu => ?_⟩
  have hj := hc j u hu
  by_cases hbg : b = g
  ·exfalso
   have := List.mem_of_getElem? hu
   unfold vals at this
   obtain ⟨x, _, rfl⟩ := List.mem_map.1 this
   subst hbg
   exact hs.noLimb hj
  ·exact (World.cell?_of_block (hk.block b (by omega) hbg (by simp))).trans hj
theorem MaxLen.kpP (h : MaxLen w) (hs : StP w g A n c a d) (hk : Kp g none w w') : MaxLen w' := by
 obtain ⟨m, hm⟩ := h
 have hlt : 0 < w.heap.size := World.block_lt_of_cell? w _ hm
 have hne : 0 ≠ g := by
  rintro rfl
  have h0 := hs.bx.c0
  rw [hm] at h0
  cases h0
 exact ⟨m, (World.cell?_of_block (hk.block _ hlt hne (by simp))).trans hm⟩
end
structure Sgn (w : World) (q n c : Nat) (S : List ByteArray) : Prop where
 len : n = S.length
 cap : n ≤ c
 room : c ≤ maxLen
 lt : q < w.heap.size
 row : ∀ (j : Nat) (s : ByteArray), S[j]? = some s → w.cell? ⟨q, j, none⟩ = some (.string s)
section
variable {w w' : World} {q n c g m k a d : Nat} {A : Option Addr} {S : List ByteArray}
theorem Sgn.on (h : Sgn w q n c S) (hb : Below w.heap.size w w') : Sgn w' q n c S :=
 ⟨h.len, h.cap, h.room, Nat.lt_of_lt_of_le h.lt hb.size, fun j s hs => (hb.cell (p := ⟨q, j, none⟩) h.lt).trans (h.row j s hs)⟩
theorem Sgn.kp (h : Sgn w q n c S) (hk : Kp g none w w') (hg : q ≠ g) : Sgn w' q n c S :=
 ⟨h.len, h.cap, h.room, Nat.lt_of_lt_of_le h.lt hk.size, fun j s hs => (World.cell?_of_block (hk.block q h.lt hg (by simp))).trans (h.row j s hs)⟩
end
abbrev TBx (w : World) (g : Nat) (t : Tk4) : Prop := Bx4 w g (.int .i64 t.1) (.string t.2.1) (.int .i64 t.2.2.1) (.int .i64 t.2.2.2)
structure SY (w0 w : World) (g B : Nat) (A : Option Addr) (n c : Nat) (L : List Tk4) (a d : Nat) (l : List (Option Addr × Nat × Nat × Nat)) (bs : List (Nat × Value × Value × Value)) (ts : List (Nat × Tk4)) : Prop where
 kp : Kp g none w0 w
 st : StP w g A n c a d
 rd : RdK w B A n c L
 mx : MaxLen w
 pl : B ≤ g ∧ g < w0.heap.size
 num : ∀ q ∈ l, Num w w.heap.size q.1 q.2.1 q.2.2.1 q.2.2.2
 box : ∀ q ∈ bs, Box w q.1 q.2.1 q.2.2.1 q.2.2.2 ∧ w0.heap.size ≤ q.1
 tbx : ∀ q ∈ ts, TBx w q.1 q.2 ∧ w0.heap.size ≤ q.1
section
variable {w0 w w' : World} {g B n c a d a' d' : Nat} {A : Option Addr} {L : List Tk4} {l : List (Option Addr × Nat × Nat × Nat)} {bs : List (Nat × Value × Value × Value)} {ts : List (Nat × Tk4)}
theorem SY.start (hs : StP w g A n c a d) (hr : RdK w B A n c L) (hm : MaxLen w) (hp : B ≤ g) : SY w w g B A n c L a d [] [] [] :=
 ⟨Kp.refl _ _ _, hs, hr, hm, ⟨hp, hs.lt⟩, (fun q hq => by cases hq), (fun q hq => by cases hq), (fun q hq => by cases hq)⟩
theorem SY.step (h : SY w0 w g B A n c L a d l bs ts) (hb : Below w.heap.size w w') : SY w0 w' g B A n c L a d l bs ts :=
 ⟨kp_trans h.kp (kp_of hb (Nat.le_refl _)), h.st.on hb, h.rd.on (by have := h.pl; have := h.st.lt; omega) hb, h.mx.on hb, h.pl, fun q hq => (h.num q hq).on hb, fun q hq => ⟨(h.box q hq).1.on hb, (h.box q hq).2⟩, fun q hq => ⟨(h.tbx q hq).1.on hb, (h.tbx q hq).2⟩⟩
theorem SY.call (h : SY w0 w g B A n c L a d l bs ts) (hk : Kp g none w w') (hs : StP w' g A n c a' d') : SY w0 w' g B A n c L a' d' l bs ts :=
 ⟨kp_trans h.kp hk, hs, h.rd.kp h.pl.1 (by have := h.pl; have := h.st.lt; omega) hk, h.mx.kpP h.st hk, h.pl, fun q hq => (Lim.kpP (h.num q hq) h.st (Nat.le_refl _) hk).more hk.size, fun q hq => ⟨(h.box q hq).1.kp hk (by have := h.pl; have := (h.box q hq).2; omega), (h.box q hq).2⟩, fun q hq => ⟨(h.tbx q hq).1.kp hk (by have := h.pl; have := (h.tbx q hq).2; omega) (by simp), (h.tbx q hq).2⟩⟩
theorem SY.set1 (h : SY w0 w g B A n c L a d l bs ts) (x : Nat) : SY w0 (w.setCell ⟨g, 1, none⟩ (.int .i64 (x : Int))) g B A n c L x d l bs ts := h.call (kp_set _ _ _ _) (h.st.set1 x)
theorem SY.set2 (h : SY w0 w g B A n c L a d l bs ts) (x : Nat) : SY w0 (w.setCell ⟨g, 2, none⟩ (.int .i64 (x : Int))) g B A n c L a x l bs ts := h.call (kp_set _ _ _ _) (h.st.set2 x)
theorem SY.push (h : SY w0 w g B A n c L a d l bs ts) {A1 : Option Addr} {n1 c1 x : Nat} (hn : Num w w.heap.size A1 n1 c1 x) : SY w0 w g B A n c L a d ((A1, n1, c1, x) :: l) bs ts :=
 ⟨h.kp, h.st, h.rd, h.mx, h.pl, fun q hq => by
  rcases List.mem_cons.1 hq with rfl | hq
  ·exact hn
  ·exact h.num q hq, h.box, h.tbx⟩
theorem SY.alloc (h : SY w0 w g B A n c L a d l bs ts) (o : Obj) : SY w0 (w.alloc o) g B A n c L a d l bs ts := h.step ((Below.refl _ _).alloc (Nat.le_refl _) o)
theorem SY.lay {x0 x1 x2 : Value} {t : TypeId} {g1 : Nat} (h : SY w0 w g B A n c L a d l bs ts) (hg : g1 = w.heap.size) : SY w0 (w.alloc (.cells #[x0, x1, x2] t)) g B A n c L a d l ((g1, x0, x1, x2) :: bs) ts := by
 have h2 := h.alloc (.cells #[x0, x1, x2] t)
 refine ⟨h2.kp, h2.st, h2.rd, h2.mx, h2.pl, h2.num, fun q hq => ?_, h2.tbx⟩
 rcases List.mem_cons.1 hq with rfl | hq
 ·exact ⟨Box.newAt w x0 x1 x2 t hg, by have := h.kp.size; show _ ≤ g1; omega⟩
 ·exact h2.box q hq
theorem SY.word {t : TypeId} {g1 : Nat} (h : SY w0 w g B A n c L a d l bs ts) (k : Int) (T : ByteArray) (p q : Int) (hg : g1 = w.heap.size) : SY w0 (w.alloc (.cells #[.int .i64 k, .string T, .int .i64 p, .int .i64 q] t)) g B A n c L a d l bs ((g1, k, T, p, q) :: ts) := by
 have h2 := h.alloc (.cells #[.int .i64 k, .string T, .int .i64 p, .int .i64 q] t)
 refine ⟨h2.kp, h2.st, h2.rd, h2.mx, h2.pl, h2.num, h2.box, fun r hr => ?_⟩
 rcases List.mem_cons.1 hr with rfl | hr
 ·exact ⟨Bx4.newAt w _ _ _ _ t hg, by have := h.kp.size; show _ ≤ g1; omega⟩
 ·exact h2.tbx r hr
theorem SY.got {A1 : Option Addr} {n1 c1 x : Nat} (h : Hid (SY w0 w g B A n c L a d l bs ts)) (hm : (A1, n1, c1, x) ∈ l) : Num w w.heap.size A1 n1 c1 x := h.out.num _ hm
theorem SY.at_ {x0 x1 x2 : Value} {g1 : Nat} (h : Hid (SY w0 w g B A n c L a d l bs ts)) (hm : (g1, x0, x1, x2) ∈ bs) : Box w g1 x0 x1 x2 := (h.out.box _ hm).1
theorem SY.wat {k p q : Int} {T : ByteArray} {g1 : Nat} (h : Hid (SY w0 w g B A n c L a d l bs ts)) (hm : (g1, k, T, p, q) ∈ ts) : Bx4 w g1 (.int .i64 k) (.string T) (.int .i64 p) (.int .i64 q) := (h.out.tbx _ hm).1
theorem SY.facts (h : Hid (SY w0 w g B A n c L a d l bs ts)) : Box w g (.slice A n c) (.int .i64 (a : Int)) (.int .i64 (d : Int)) := h.out.st.bx
theorem SY.put {g1 : Nat} {b : Bool} {A1 : Option Addr} {n1 c1 : Nat} {k1 : Int} (h : SY w0 w g B A n c L a d l bs ts) (hm : (g1, .bool b, .slice A1 n1 c1, .int .i64 k1) ∈ bs) (bs' : List (Nat × Value × Value × Value)) (hs : ∀ q ∈ bs', q ∈ bs ∧ g1 ≠ q.1) (y0 y1 y2 : Value) :
  SY w0 (put3 w g1 y0 y1 y2) g B A n c L a d l ((g1, y0, y1, y2) :: bs') ts := by
 have X := h.box _ hm
 have hg : g ≠ g1 := by have := h.pl; have := X.2; dsimp only at this; omega
 have hblk : ∀ k, k ≠ g1 → (put3 w g1 y0 y1 y2).heap[k]? = w.heap[k]? := fun k hk => by
  unfold put3
  rw [heap_setCell_other _ ⟨g1, 2, none⟩ k _ hk, heap_setCell_other _ ⟨g1, 1, none⟩ k _ hk, heap_setCell_other _ ⟨g1, 0, none⟩ k _ hk]
 have hsz : (put3 w g1 y0 y1 y2).heap.size = w.heap.size := by simp
 have hmx : MaxLen (put3 w g1 y0 y1 y2) := by
  obtain ⟨m, hmx⟩ := h.mx
  refine ⟨m, (World.cell?_of_block (hblk _ ?_)).trans hmx⟩
  rintro rfl
  have h0 := X.1.c0
  rw [hmx] at h0; cases h0
 refine ⟨⟨h.kp.os, h.kp.tape, h.kp.output, by rw [hsz]; exact h.kp.size, fun k hk hc hr => ?_⟩, (hblk g hg).trans h.st, ⟨h.rd.len, h.rd.cap, h.rd.room, h.rd.row.keep fun p hp => World.cell?_of_block (hblk p.block (by have := h.pl; have := X.2; dsimp only at this; omega))⟩, hmx, h.pl, fun q hq => ?_, fun q hq => ?_, fun q hq => ?_⟩
 ·rw [hblk k (by have := X.2; dsimp only at this; omega)]; exact h.kp.block k hk hc hr
 ·have := (h.num q hq).put3 X.1 (noLimb_bool _) (noLimb_slice _ _ _) (noLimb_int _) y0 y1 y2
  rw [hsz]; exact this
 ·rcases List.mem_cons.1 hq with rfl | hq
  ·exact ⟨X.1.put y0 y1 y2, X.2⟩
  ·exact ⟨(h.box q (hs q hq).1).1.apart y0 y1 y2 (hs q hq).2, (h.box q (hs q hq).1).2⟩
 ·have T := h.tbx q hq
  have hne : q.1 ≠ g1 := fun e => by
   have h0 := X.1.c0
   have h1 := T.1.c0
   rw [e] at h1
   dsimp only at h0
   rw [h0] at h1; cases h1
  obtain ⟨c0, c1, c2, c3, f0, f1, f2, f3, lt⟩ := T.1
  have hb := hblk q.1 hne
  have hcell : ∀ j, (put3 w g1 y0 y1 y2).cell? ⟨q.1, j, none⟩ = w.cell? ⟨q.1, j, none⟩ := fun j => World.cell?_of_block hb
  have hfr : ∀ j, (put3 w g1 y0 y1 y2).frozen? ⟨q.1, j, none⟩ = w.frozen? ⟨q.1, j, none⟩ := fun j => World.frozen?_of_block hb
  exact ⟨⟨(hcell 0).trans c0, (hcell 1).trans c1, (hcell 2).trans c2, (hcell 3).trans c3, (hfr 0).trans f0, (hfr 1).trans f1, (hfr 2).trans f2, (hfr 3).trans f3, by rw [hsz]; exact lt⟩, T.2⟩
theorem SY.sub {l' : List (Option Addr × Nat × Nat × Nat)} {bs' : List (Nat × Value × Value × Value)} {ts' : List (Nat × Tk4)} (h : SY w0 w g B A n c L a d l bs ts) (hl : ∀ q ∈ l', q ∈ l) (hs : ∀ q ∈ bs', q ∈ bs) (ht : ∀ q ∈ ts', q ∈ ts) : SY w0 w g B A n c L a d l' bs' ts' :=
 ⟨h.kp, h.st, h.rd, h.mx, h.pl, fun q hq => h.num q (hl q hq), fun q hq => h.box q (hs q hq), fun q hq => h.tbx q (ht q hq)⟩
theorem SY.az {g1 : Nat} (h : Hid (SY w0 w g B A n c L a d l bs ts)) (hm : (g1, .bool false, .slice none 0 0, .int .i64 0) ∈ bs) : Box w g1 (.bool false) (.slice none 0 0) (.int .i64 0) := SY.at_ h hm
theorem SY.ad {g1 : Nat} (x : Int) (A1 : Option Addr) (n1 c1 : Nat) (k : Int) (h : Hid (SY w0 w g B A n c L a d l bs ts)) (hm : (g1, .bool (ngB x), .slice A1 n1 c1, .int .i64 k) ∈ bs) : Box w g1 (.bool (ngB x)) (.slice A1 n1 c1) (.int .i64 k) := SY.at_ h hm
theorem SY.pz {g1 : Nat} (h : SY w0 w g B A n c L a d l bs ts) (hm : (g1, .bool false, .slice none 0 0, .int .i64 0) ∈ bs) (y0 y1 y2 : Value) : SY w0 (put3 w g1 y0 y1 y2) g B A n c L a d l [(g1, y0, y1, y2)] ts := SY.put h hm [] (fun q hq => by cases hq) y0 y1 y2
end
theorem tok_put {w W : World} {x0 x1 x2 x3 : Value} (h : Below w.heap.size w W) (X : Bx4 W w.heap.size x0 x1 x2 x3) (y0 y1 y2 y3 : Value) :
  Rbx w ((((W.setCell ⟨w.heap.size, 0, none⟩ y0).setCell ⟨w.heap.size, 1, none⟩ y1).setCell ⟨w.heap.size, 2, none⟩ y2).setCell ⟨w.heap.size, 3, none⟩ y3) y0 y1 y2 y3 :=
 ⟨(((h.setCell (Nat.le_refl _) y0).setCell (Nat.le_refl _) y1).setCell (Nat.le_refl _) y2).setCell (Nat.le_refl _) y3, (((X.set0 y0).set1 y1).set2 y2).set3 y3⟩
theorem pnext_end {w : World} {g n c i d : Nat} {A : Option Addr} (hs : StP w g A n c i d) (hi : i = n) : Calls Tryz.prog 77 #[.pointer (some ⟨g, 0, none⟩)] w (Ret9 w (.tuple #[.agg #[.int .i64 0, .string ⟨#[]⟩, .int .i64 0, .int .i64 0], .bool false])) := by
 have X : Hid (Bx4 (w.alloc (.cells #[.int .i64 0, .string ⟨#[]⟩, .int .i64 0, .int .i64 0] 39)) w.heap.size (.int .i64 0) (.string ⟨#[]⟩) (.int .i64 0) (.int .i64 0)) := Bx4.newAt _ _ _ _ _ _ rfl
 have hb : Below w.heap.size w (w.alloc (.cells #[.int .i64 0, .string ⟨#[]⟩, .int .i64 0, .int .i64 0] 39)) := (Below.refl _ _).alloc (Nat.le_refl _) _
 have E := Lib.hid hb
 have HS := Lib.hid (hs.on hb)
 have hg := hs.lt
 have d1 : ((i : Int) == (n : Int)) = true := by rw [beq_iff_eq]; omega
 clear hs hb
 go_enter Tryz.func77, Tryz.ntmps77
 go_wp2_with fail
 generalize hW : World.alloc w _ = W1 at E HS X ⊢
 clear hW
 obtain ⟨p0, p1, p2, pf0, pf1, pf2, plt⟩ := HS.out.bx
 go_quiet (fail)
 have hb := below_drewN (Below.refl W1.heap.size W1) nq
 replace X := Lib.hid (X.out.on hb)
 replace E := Lib.hid (E.out.trans (hb.mono E.out.size))
 replace HS := Lib.hid (HS.out.on hb)
 clear hb p0 p1 p2 pf0 pf1 pf2 plt
 generalize hW : World.drewN W1 _ = W2 at E HS X ⊢
 clear hW
 have Y : Hid (Bx4 (W2.alloc (.cells #[.int .i64 0, .string ⟨#[]⟩, .int .i64 0, .int .i64 0] 39)) W2.heap.size (.int .i64 0) (.string ⟨#[]⟩) (.int .i64 0) (.int .i64 0)) := Bx4.newAt _ _ _ _ _ _ rfl
 replace X := Lib.hid (X.out.on ((Below.refl _ _).alloc (Nat.le_refl _) (.cells #[.int .i64 0, .string ⟨#[]⟩, .int .i64 0, .int .i64 0] 39)))
 obtain ⟨q0, q1, q2, q3, qf0, qf1, qf2, qf3, qlt⟩ := X.out
 go_wp2_with fail
 have R := tok_put (E.out.alloc E.out.size (.cells #[.int .i64 0, .string ⟨#[]⟩, .int .i64 0, .int .i64 0] 39)) X.out (.int .i64 0) (.string ⟨#[]⟩) (.int .i64 0) (.int .i64 0)
 clear q0 q1 q2 q3 qf0 qf1 qf2 qf3 qlt
 obtain ⟨q0, q1, q2, q3, _, _, _, _, _⟩ := R.2
 exact bodyPost_ret (v := .tuple #[.agg #[.int .i64 0, .string ⟨#[]⟩, .int .i64 0, .int .i64 0], .bool false]) (by simp [results, Tryz.results77, go_sem, q0, q1, q2, q3]) rfl ⟨rfl, R.1⟩
theorem some_map_str {S : List ByteArray} {j : Nat} {s : ByteArray} (h : S[j]? = some s) : (S.map Value.string)[j]? = some (.string s) := by rw [List.getElem?_map, h]; rfl
theorem sgn_of {v : World} {q n : Nat} {S : List ByteArray} {vs : Array Value} {t : TypeId} (hq : v.heap[q]? = some (.cells vs t (0, 0))) (hv : vs.toList = S.map Value.string) (hn : n = S.length) (hm : n ≤ 1000) : Sgn v q n n S := by
 refine ⟨hn, Nat.le_refl _, by unfold maxLen; omega, ?_, fun j s hs => ?_⟩
 ·rcases Nat.lt_or_ge q v.heap.size with h1 | h1
  ·exact h1
  ·rw [Array.getElem?_eq_none h1] at hq; cases hq
 ·rw [cell_of_row v q j _ _ _ hq]
  have := some_map_str hs
  rw [← hv, Array.getElem?_toList] at this
  exact this
theorem sgn_one (v : World) (s1 : ByteArray) (t : TypeId) {q : Nat} (hq : q = v.heap.size) : Sgn (v.alloc (.cells #[.string s1] t)) q 1 1 [s1] := by subst hq; exact sgn_of (heap_alloc_new v _) rfl rfl (by omega)
theorem sgn_two (v : World) (s1 s2 : ByteArray) (t : TypeId) {q : Nat} (hq : q = v.heap.size) : Sgn (v.alloc (.cells #[.string s1, .string s2] t)) q 2 2 [s1, s2] := by subst hq; exact sgn_of (heap_alloc_new v _) rfl rfl (by omega)
theorem sgn_three (v : World) (s1 s2 s3 : ByteArray) (t : TypeId) {q : Nat} (hq : q = v.heap.size) : Sgn (v.alloc (.cells #[.string s1, .string s2, .string s3] t)) q 3 3 [s1, s2, s3] := by subst hq; exact sgn_of (heap_alloc_new v _) rfl rfl (by omega)
theorem pnext_some {w : World} {g B n c i d : Nat} {A : Option Addr} {L : List Tk4} (hs : StP w g A n c i d) (hr : RdK w B A n c L) (hB : B ≤ w.heap.size) (hn : n ≤ 1000) {t : Tk4} (ht : L[i]? = some t) : Calls Tryz.prog 77 #[.pointer (some ⟨g, 0, none⟩)] w (Ret9 w (.tuple #[tk4 t, .bool true])) := by
 obtain ⟨q, u0, rfl, h1, h2, h3, h4, -⟩ := hr.at_ ht
 obtain ⟨k, T, l, m⟩ := t
 have X : Hid (Bx4 (w.alloc (.cells #[.int .i64 0, .string ⟨#[]⟩, .int .i64 0, .int .i64 0] 39)) w.heap.size (.int .i64 0) (.string ⟨#[]⟩) (.int .i64 0) (.int .i64 0)) := Bx4.newAt _ _ _ _ _ _ rfl
 have hb : Below w.heap.size w (w.alloc (.cells #[.int .i64 0, .string ⟨#[]⟩, .int .i64 0, .int .i64 0] 39)) := (Below.refl _ _).alloc (Nat.le_refl _) _
 have E := Lib.hid hb
 have HS := Lib.hid (hs.on hb)
 have HR := Lib.hid (hr.on hB hb)
 have hg := hs.lt
 have d1 : ((i : Int) == (n : Int)) = false := by rw [beq_eq_false_iff_ne]; omega
 have d2 : decide (n ≤ i) = false := decide_eq_false (by omega)
 have d3 : decide (i < n) = true := decide_eq_true (by omega)
 have d4 : (0 : Int) ≤ (i : Int) := by omega
 have d5 : (i : Int) < (n : Int) := by omega
 clear hs hr hb
 go_enter Tryz.func77, Tryz.ntmps77
 go_wp2_with fail
 generalize hW : World.alloc w _ = W1 at E HS HR X ⊢
 clear hW
 obtain ⟨p0, p1, p2, pf0, pf1, pf2, plt⟩ := HS.out.bx
 go_quiet (fail)
 have hb := below_drewN (Below.refl W1.heap.size W1) nq
 replace X := Lib.hid (X.out.on hb)
 replace HR := Lib.hid (HR.out.on (by have := E.out.size; omega) hb)
 replace E := Lib.hid (E.out.trans (hb.mono E.out.size))
 replace HS := Lib.hid (HS.out.on hb)
 clear hb p0 p1 p2 pf0 pf1 pf2 plt
 generalize hW : World.drewN W1 _ = W2 at E HS HR X ⊢
 clear hW
 obtain ⟨p0, p1, p2, pf0, pf1, pf2, plt⟩ := HS.out.bx
 obtain ⟨q0, q1, q2, q3, qf0, qf1, qf2, qf3, qlt⟩ := X.out
 obtain ⟨a0, a1, a2, a3⟩ := tok_cells HR.out ht
 go_wp2_with fail
 go_region
 have R := (tok_put E.out X.out (.int .i64 k) (.string T) (.int .i64 l) (.int .i64 m)).on (Below.refl _ _).drew
 clear q0 q1 q2 q3 qf0 qf1 qf2 qf3 qlt
 obtain ⟨q0, q1, q2, q3, _, _, _, _, _⟩ := R.2
 go_wp2_with fail
 exact bodyPost_ret (v := .tuple #[.agg #[.int .i64 k, .string T, .int .i64 l, .int .i64 m], .bool true]) (by simp [results, Tryz.results77, go_sem, q0, q1, q2, q3]) rfl ⟨rfl, R.1⟩
theorem ppass {w : World} {g n c i d : Nat} {A : Option Addr} (hs : StP w g A n c i d) (hi : i ≤ 1000000) (i1 : Nat) (h1 : i + 1 = i1) : Calls Tryz.prog 78 #[.pointer (some ⟨g, 0, none⟩)] w (fun e w' => e = .returned (.tuple #[]) ∧ w' = w.setCell ⟨g, 1, none⟩ (.int .i64 (i1 : Int))) := by
 obtain ⟨p0, p1, p2, pf0, pf1, pf2, plt⟩ := hs.bx
 have ei : (i : Int) + 1 = (i1 : Int) := by omega
 clear hs h1
 go_enter Tryz.func78, Tryz.ntmps78
 go_wp2_with fail
 go_end0
 exact ⟨rfl, rfl⟩
def isOne (T : ByteArray) (S : List ByteArray) : Bool := S.any fun s => decide (bs9 T = bs9 s)
theorem pindex {w : World} {q n c : Nat} {S : List ByteArray} (h : Sgn w q n c S) (T : ByteArray) :
  Calls Tryz.prog 99 #[.slice (some ⟨q, 0, none⟩) n c, .string T] w fun e w' => (∃ r : Int, e = .returned (.int .i64 r) ∧ decide (0 ≤ r) = isOne T S) ∧ w = w' := by
 have hm := h.room
 have hn := h.cap
 unfold maxLen at hm
 go_enter Tryz.func99, Tryz.ntmps99
 go_wp2
 go_loop [8] (fun i => ∃ k : Nat, k ≤ n ∧ i = .int .i64 k ∧ isOne T (S.take k) = false) (fun i => n - (intOf i).toNat)
 case atStart => exact ⟨0, Nat.zero_le _, rfl, rfl⟩
 case round =>
  obtain ⟨k, hk, rfl, hall⟩ := hrel
  have HALL := Lib.hid hall
  clear hall
  by_cases hkn : k < n
  ·obtain ⟨s, hs⟩ : ∃ s, S[k]? = some s := ⟨_, List.getElem?_eq_getElem (by have := h.len; omega)⟩
   have hc := h.row k s hs
   have H := Lib.hid h
   have HS := Lib.hid hs
   clear h hs
   cases hb : decide (bs9 T = bs9 s) with
   | true =>
    have ht : (T.toList == s.toList) = true := by rw [txt_eq]; exact hb
    have E : Hid (isOne T S = true) := by
     show _ = _
     unfold isOne
     rw [List.any_eq_true]
     exact ⟨s, List.mem_of_getElem? HS.out, hb⟩
    clear hb
    go_wp2_with fail
    go_ret
    exact ⟨⟨_, rfl, by rw [E.out]; simp⟩, rfl⟩
   | false =>
    have ht : (T.toList == s.toList) = false := by rw [txt_eq]; exact hb
    have E : Hid (isOne T (S.take (k + 1)) = false) := by
     show _ = _
     have h2 := HALL.out
     unfold isOne at h2 ⊢
     rw [List.take_add_one, List.any_append, h2, HS.out]
     show (false || (decide (bs9 T = bs9 s) || false)) = false
     rw [hb]; rfl
    clear hb
    go_wp2_with fail
    go_round
    case rel => exact ⟨k + 1, by omega, by go_num, E.out⟩
    case measure => simp [intOf]; omega
  ·obtain rfl : k = n := by omega
   have E : Hid (isOne T S = false) := by
    show _ = _
    have h2 := HALL.out
    rw [List.take_of_length_le (by rw [h.len]; exact Nat.le_refl _)] at h2
    exact h2
   clear h
   go_wp2
   go_ret
   exact ⟨⟨_, rfl, by rw [E.out]; simp⟩, rfl⟩
theorem pcontains {w : World} {q n c : Nat} {S : List ByteArray} (h : Sgn w q n c S) (T : ByteArray) {b : Bool} (hb : isOne T S = b) :
  Calls Tryz.prog 62 #[.slice (some ⟨q, 0, none⟩) n c, .string T] w fun e w' => e = .returned (.bool b) ∧ w = w' := by
 have H := Lib.hid h
 have HB := Lib.hid hb
 clear h hb
 go_enter Tryz.func62, Tryz.ntmps62
 go_wp2_with fail
 refine (pindex H.out T).mono ?_; rintro e w1 ⟨⟨r, rfl, hr⟩, rfl⟩
 have HR : Hid (decide (0 ≤ r) = b) := hr.trans HB.out
 clear hr
 go_wp2_with fail
 go_ret
 exact ⟨ret_bool HR.out, rfl⟩
def isgs (t : Tok) (S : List ByteArray) : Bool := decide (t.1 = 10) && isOne t.2 S
theorem pissign {w : World} {q n c : Nat} {S : List ByteArray} (h : Sgn w q n c S) {k : Int} {T : ByteArray} {b : Bool} (hb : isgs (k, T) S = b) (l m : Int) :
  Calls Tryz.prog 31 #[.agg #[.int .i64 k, .string T, .int .i64 l, .int .i64 m], .slice (some ⟨q, 0, none⟩) n c] w (Ret9 w (.bool b)) := by
 have HB : Hid (Below w.heap.size w (w.alloc (.cells #[.int .i64 k, .string T, .int .i64 l, .int .i64 m] 39))) := (Below.refl _ _).alloc (Nat.le_refl _) _
 have H := Lib.hid (h.on HB.out)
 by_cases hk : k = 10
 ·have d : (k == 10) = true := by rw [hk]; rfl
  have E : Hid (isOne T S = b) := by show _ = _; rw [← hb]; unfold isgs; rw [decide_eq_true hk, Bool.true_and]
  clear h hb hk
  go_enter Tryz.func31, Tryz.ntmps31
  go_wp2_with fail
  refine (pcontains H.out T E.out).mono ?_; rintro e w1 ⟨rfl, rfl⟩
  go_wp2_with fail
  go_ret
  exact ⟨rfl, HB.out⟩
 ·have d : (k == 10) = false := by rw [beq_eq_false_iff_ne]; exact hk
  have E : Hid (false = b) := by show _ = _; rw [← hb]; unfold isgs; rw [decide_eq_false hk, Bool.false_and]
  clear h hb hk
  go_enter Tryz.func31, Tryz.ntmps31
  go_wp2_with fail
  go_ret
  exact ⟨rb9 E.out, HB.out⟩
theorem isgs_two (t : Tok) {s1 s2 : ByteArray} {x y : Nat} (h1 : bs9 s1 = [x]) (h2 : bs9 s2 = [y]) : isgs t [s1, s2] = (isg t x || isg t y) := by
 unfold isgs isOne isg
 rw [List.any_cons, List.any_cons, List.any_nil, h1, h2, Bool.or_false, Bool.and_or_distrib_left]
theorem isgs_one (t : Tok) {s1 : ByteArray} {x : Nat} (h1 : bs9 s1 = [x]) : isgs t [s1] = isg t x := by
 unfold isgs isOne isg
 rw [List.any_cons, List.any_nil, h1, Bool.or_false]
theorem isgs_starts (t : Tok) (h : t.1 ≠ 4) : isgs t [⟨#[43]⟩, ⟨#[45]⟩, ⟨#[40]⟩] = sta t := by
 unfold isgs isOne sta isg
 rw [decide_eq_false h, Bool.false_or, List.any_cons, List.any_cons, List.any_cons, List.any_nil, Bool.or_false]
 show (_ && (decide (bs9 t.2 = [43]) || (decide (bs9 t.2 = [45]) || decide (bs9 t.2 = [40])))) = _
 cases decide (t.1 = 10) <;> cases decide (bs9 t.2 = [43]) <;> cases decide (bs9 t.2 = [45]) <;> cases decide (bs9 t.2 = [40]) <;> rfl
theorem pstarts {w : World} {k : Int} {T : ByteArray} {b : Bool} (hb : sta (k, T) = b) (l m : Int) :
  Calls Tryz.prog 13 #[.agg #[.int .i64 k, .string T, .int .i64 l, .int .i64 m]] w (Ret9 w (.bool b)) := by
 have HB : Hid (Below w.heap.size w (w.alloc (.cells #[.int .i64 k, .string T, .int .i64 l, .int .i64 m] 39))) := (Below.refl _ _).alloc (Nat.le_refl _) _
 have X : Hid (Bx4 (w.alloc (.cells #[.int .i64 k, .string T, .int .i64 l, .int .i64 m] 39)) w.heap.size (.int .i64 k) (.string T) (.int .i64 l) (.int .i64 m)) := Bx4.newAt _ _ _ _ _ _ rfl
 by_cases hk : k = 4
 ·have d : (k == 4) = true := by rw [hk]; rfl
  have E : Hid (true = b) := by show _ = _; rw [← hb]; unfold sta; rw [decide_eq_true hk]; rfl
  clear hb hk
  go_enter Tryz.func13, Tryz.ntmps13
  go_wp2_with fail
  go_ret
  exact ⟨rb9 E.out, HB.out⟩
 ·have d : (k == 4) = false := by rw [beq_eq_false_iff_ne]; exact hk
  have E : Hid (isgs (k, T) [⟨#[43]⟩, ⟨#[45]⟩, ⟨#[40]⟩] = b) := by show _ = _; rw [isgs_starts _ hk]; exact hb
  clear hb hk
  go_enter Tryz.func13, Tryz.ntmps13
  go_wp2_with fail
  have hb2 := HB.out.alloc HB.out.size (.cells #[.string ⟨#[43]⟩, .string ⟨#[45]⟩, .string ⟨#[40]⟩] 9)
  refine (pissign (sgn_three _ ⟨#[43]⟩ ⟨#[45]⟩ ⟨#[40]⟩ 9 (by simp)) E.out l m).mono ?_; rintro e w1 ⟨rfl, hb⟩
  replace HB := Lib.hid (hb2.trans (hb.mono hb2.size))
  clear hb hb2
  go_wp2_with fail
  go_ret
  exact ⟨rfl, HB.out⟩
theorem pquo_yes {A A' : Option Addr} {n c n' c' s t : Nat} {i j : Int} {w : World} (h : Num w w.heap.size A n c i.natAbs) (h' : Num w w.heap.size A' n' c' j.natAbs) (hn : n ≤ 1000) (hn' : n' ≤ 1000) (hs : s ≤ 4010) (ht : t ≤ 4010) (hj : j ≠ 0) (hl : (dg (quoQ i s j t).natAbs).length ≤ 1000) :
  Calls Tryz.prog 11 #[.agg #[.bool (ngB i), .slice A n c, .int .i64 (s : Int)], .agg #[.bool (ngB j), .slice A' n' c', .int .i64 (t : Int)]] w (RetDecE w (quoI i s j t) (quoK i s j t)) := by
 obtain ⟨M, hM⟩ : ∃ M, max s t = M := ⟨_, rfl⟩
 obtain ⟨S, hS⟩ : ∃ S, M + 10 = S := ⟨_, rfl⟩
 have em : max (s : Int) (t : Int) = (M : Int) := by omega
 have eS : (M : Int) + 10 = (S : Int) := by omega
 have hM4 : M ≤ 4010 := by omega
 have hmn := min_gen (P := Tryz.prog) (x := (M : Int)) (y := 9223372036854775797) (z := (M : Int)) (by omega)
 have HM := Lib.hid hM
 have HS := Lib.hid hS
 have HJ := Lib.hid hj
 have HL := Lib.hid hl
 clear hM hS hj hl
 go_enter Tryz.func11, Tryz.ntmps11
 go_wp2_with fail
 have E := Lib.hid ((((St.start w (l := [(A, n, c, i.natAbs), (A', n', c', j.natAbs)]) (by intro q hq; simp at hq; rcases hq with rfl | rfl; exact h; exact h')).alloc (.cells #[.bool (ngB i), .slice A n c, .int .i64 (s : Int)] 26)).alloc (.cells #[.bool (ngB j), .slice A' n' c', .int .i64 (t : Int)] 26)).lay (g := w.heap.size + 1 + 1) (x0 := .bool false) (x1 := .slice none 0 0) (x2 := .int .i64 0) (t := 26) (by simp))
 generalize hW : World.alloc (World.alloc (World.alloc w _) _) _ = W0 at E ⊢
 clear hW
 refine (rdiv_is (i := i) (j := j) (s := s) (t := t) (S := S) (St.got (A := A) (n := n) (c := c) E (by simp)) (St.got (A := A') (n := n') (c := c') E (by simp)) hn hn' (by omega) (by omega) (by omega) (by omega) HJ.out (z := quoQ i s j t) (by unfold quoQ; rw [HM.out, HS.out])).mono ?_; rintro e w1 ⟨A2, n2, c2, rfl, hnum2, hb2⟩
 have hn2 : n2 ≤ 1000 := by have := hnum2.len; have := HL.out; omega
 replace E := Lib.hid (St.push E.out hb2 hnum2)
 clear hnum2 hb2
 have hlt := (St.az (g := w.heap.size + 1 + 1) E (by simp)).lt
 go_wp2_with fail
 replace E := Lib.hid (St.lay (g := w1.heap.size) (x0 := .bool (ngB (quoQ i s j t))) (x1 := .slice A2 n2 c2) (x2 := .int .i64 (S : Int)) (t := 26) E.out rfl)
 refine (strip_is5 (i := quoQ i s j t) (s := S) (L := M) (v := (M : Int)) (St.got (A := A2) (n := n2) (c := c2) E (by simp)) hn2 (by omega) (by omega) (by omega) (M := quoK i s j t) (by unfold quoK; rw [HM.out, HS.out]) (x := quoI i s j t) (by unfold quoI; rw [HM.out, HS.out])).mono ?_; rintro e w2 ⟨A3, n3, c3, rfl, hnum3, hb3⟩
 replace E := Lib.hid (St.push E.out hb3 hnum3)
 clear hnum3 hb3
 obtain ⟨r0, r1, r2, rf0, rf1, rf2, rlt⟩ := St.az (g := w.heap.size + 1 + 1) E (by simp)
 go_wp2_with fail
 clear r0 r1 r2 rf0 rf1 rf2 rlt
 have EF := Lib.hid (St.sz E.out (g := (w.heap.size + 1 + 1)) (by simp) (.bool (ngB (quoI i s j t))) (.slice A3 n3 c3) (.int .i64 (quoK i s j t : Int)))
 obtain ⟨r0, r1, r2, _, _, _, _⟩ := St.ad (quoI i s j t) A3 n3 c3 (quoK i s j t) (g := w.heap.size + 1 + 1) EF (by simp)
 exact bodyPost_ret (v := .tuple #[.agg #[.bool (ngB (quoI i s j t)), .slice A3 n3 c3, .int .i64 (quoK i s j t : Int)], .int .i64 0]) (by simp [results, Tryz.results11, go_sem, r0, r1, r2]) rfl ⟨A3, n3, c3, rfl, St.got EF (by simp), EF.out.bel⟩
theorem pquo_no {A A' : Option Addr} {n c n' c' s t : Nat} {i j : Int} {w : World} (h : Num w w.heap.size A n c i.natAbs) (h' : Num w w.heap.size A' n' c' j.natAbs) (hn : n ≤ 1000) (hn' : n' ≤ 1000) (hs : s ≤ 4010) (ht : t ≤ 4010) (hj : j = 0) :
  Calls Tryz.prog 11 #[.agg #[.bool (ngB i), .slice A n c, .int .i64 (s : Int)], .agg #[.bool (ngB j), .slice A' n' c', .int .i64 (t : Int)]] w (RetVal w (.tuple #[.agg #[.bool false, .slice none 0 0, .int .i64 0], .int .i64 4])) := by
 obtain ⟨M, hM⟩ : ∃ M, max s t = M := ⟨_, rfl⟩
 obtain ⟨S, hS⟩ : ∃ S, M + 10 = S := ⟨_, rfl⟩
 have em : max (s : Int) (t : Int) = (M : Int) := by omega
 have eS : (M : Int) + 10 = (S : Int) := by omega
 have hM4 : M ≤ 4010 := by omega
 have hmn := min_gen (P := Tryz.prog) (x := (M : Int)) (y := 9223372036854775797) (z := (M : Int)) (by omega)
 have HM := Lib.hid hM
 have HS := Lib.hid hS
 have HJ := Lib.hid hj
 clear hM hS hj
 go_enter Tryz.func11, Tryz.ntmps11
 go_wp2_with fail
 have E := Lib.hid ((((St.start w (l := [(A, n, c, i.natAbs), (A', n', c', j.natAbs)]) (by intro q hq; simp at hq; rcases hq with rfl | rfl; exact h; exact h')).alloc (.cells #[.bool (ngB i), .slice A n c, .int .i64 (s : Int)] 26)).alloc (.cells #[.bool (ngB j), .slice A' n' c', .int .i64 (t : Int)] 26)).lay (g := w.heap.size + 1 + 1) (x0 := .bool false) (x1 := .slice none 0 0) (x2 := .int .i64 0) (t := 26) (by simp))
 generalize hW : World.alloc (World.alloc (World.alloc w _) _) _ = W0 at E ⊢
 clear hW
 refine (rdiv_zero (i := i) (j := j) (s := s) (t := t) (S := S) (St.got (A := A) (n := n) (c := c) E (by simp)) (St.got (A := A') (n := n') (c := c') E (by simp)) hn hn' (by omega) (by omega) (by omega) (by omega) HJ.out).mono ?_; rintro e w1 ⟨rfl, hb2⟩
 replace E := Lib.hid (St.step E.out hb2)
 clear hb2
 have hlt := (St.az (g := w.heap.size + 1 + 1) E (by simp)).lt
 obtain ⟨r0, r1, r2, rf0, rf1, rf2, rlt⟩ := St.az (g := w.heap.size + 1 + 1) E (by simp)
 go_wp2_with fail
 clear r0 r1 r2 rf0 rf1 rf2 rlt
 have EF := Lib.hid (St.sz E.out (g := (w.heap.size + 1 + 1)) (by simp) (.bool false) (.slice none 0 0) (.int .i64 0))
 replace EF := Lib.hid (EF.out.alloc (.cells #[.bool false, .slice none 0 0, .int .i64 0] 26))
 obtain ⟨r0, r1, r2, _, _, _, _⟩ := St.az (g := w.heap.size + 1 + 1) EF (by simp)
 exact bodyPost_ret (v := .tuple #[.agg #[.bool false, .slice none 0 0, .int .i64 0], .int .i64 4]) (by simp [results, Tryz.results11, go_sem, r0, r1, r2]) rfl ⟨rfl, EF.out.bel⟩
def jnd (c : Nat) (i : Int) (s : Nat) (j : Int) (t : Nat) : Int × Nat × Nat :=
 if c = 43 then (addZ i s j t, max s t, 0) else if c = 45 then (subZ i s j t, max s t, 0) else if c = 42 then (i * j, s + t, 0) else quv i s j t
theorem pquo {A A' : Option Addr} {n c n' c' s t : Nat} {i j : Int} {w : World} (h : Num w w.heap.size A n c i.natAbs) (h' : Num w w.heap.size A' n' c' j.natAbs) (hn : n ≤ 1000) (hn' : n' ≤ 1000) (hs : s ≤ 4010) (ht : t ≤ 4010) (hl : j ≠ 0 → (dg (quoQ i s j t).natAbs).length ≤ 1000) :
  Calls Tryz.prog 11 #[.agg #[.bool (ngB i), .slice A n c, .int .i64 (s : Int)], .agg #[.bool (ngB j), .slice A' n' c', .int .i64 (t : Int)]] w (RetQ w (quv i s j t)) := by
 unfold quv
 by_cases hj : j = 0
 ·rw [if_pos hj]
  exact (pquo_no h h' hn hn' hs ht hj).mono fun e w' q => ⟨none, 0, 0, q.1, num_zero _ _, q.2⟩
 ·rw [if_neg hj]
  exact (pquo_yes h h' hn hn' hs ht hj (hl hj)).mono fun e w' q => q
theorem pjoin_add {A A' : Option Addr} {n c n' c' s t : Nat} {i j : Int} {w : World} {T : ByteArray} (h : Num w w.heap.size A n c i.natAbs) (h' : Num w w.heap.size A' n' c' j.natAbs) (hn : n ≤ 1000) (hn' : n' ≤ 1000) (hs : s ≤ 4010) (ht : t ≤ 4010) (hT : bs9 T = [43]) :
  Calls Tryz.prog 79 #[.agg #[.bool (ngB i), .slice A n c, .int .i64 (s : Int)], .string T, .agg #[.bool (ngB j), .slice A' n' c', .int .i64 (t : Int)]] w (RetQ w (jnd 43 i s j t)) := by
 show Calls _ _ _ _ (RetQ w ((addZ i s j t, max s t, 0)))
 have l43 : (T.toList == [43]) = true := lit_yes (l := [43]) hT
 obtain ⟨x, hx⟩ : ∃ x, addZ i s j t = x := ⟨_, rfl⟩
 obtain ⟨M, hM⟩ : ∃ M, max s t = M := ⟨_, rfl⟩
 have HX := Lib.hid hx
 have HM := Lib.hid hM
 rw [hx, hM]
 clear hx hM
 clear hT
 go_enter Tryz.func79, Tryz.ntmps79
 go_wp2_with fail
 have E := Lib.hid ((((St.start w (l := [(A, n, c, i.natAbs), (A', n', c', j.natAbs)]) (by intro q hq; simp at hq; rcases hq with rfl | rfl; exact h; exact h')).alloc (.cells #[.bool (ngB i), .slice A n c, .int .i64 (s : Int)] 26)).alloc (.cells #[.bool (ngB j), .slice A' n' c', .int .i64 (t : Int)] 26)).lay (g := w.heap.size + 1 + 1) (x0 := .bool false) (x1 := .slice none 0 0) (x2 := .int .i64 0) (t := 26) (by simp))
 generalize hW : World.alloc (World.alloc (World.alloc w _) _) _ = W0 at E ⊢
 clear hW
 refine (add_is5 (i := i) (j := j) (s := s) (t := t) (St.got (A := A) (n := n) (c := c) E (by simp)) (St.got (A := A') (n := n') (c := c') E (by simp)) (by omega) (by omega) (by omega) (by omega) HM.out HX.out).mono ?_; rintro e w1 ⟨A2, n2, c2, rfl, hnum2, hb2⟩
 replace E := Lib.hid (St.push E.out hb2 hnum2)
 clear hnum2 hb2
 obtain ⟨r0, r1, r2, rf0, rf1, rf2, rlt⟩ := St.az (g := w.heap.size + 1 + 1) E (by simp)
 go_wp2_with fail
 clear r0 r1 r2 rf0 rf1 rf2 rlt
 have EF := Lib.hid (St.sz E.out (g := (w.heap.size + 1 + 1)) (by simp) (.bool (ngB (x))) (.slice A2 n2 c2) (.int .i64 (M : Int)))
 obtain ⟨r0, r1, r2, _, _, _, _⟩ := St.ad (x) A2 n2 c2 M (g := w.heap.size + 1 + 1) EF (by simp)
 exact bodyPost_ret (v := .tuple #[.agg #[.bool (ngB (x)), .slice A2 n2 c2, .int .i64 (M : Int)], .int .i64 0]) (by simp [results, Tryz.results79, go_sem, r0, r1, r2]) rfl ⟨A2, n2, c2, rfl, St.got EF (by simp), EF.out.bel⟩
theorem pjoin_sub {A A' : Option Addr} {n c n' c' s t : Nat} {i j : Int} {w : World} {T : ByteArray} (h : Num w w.heap.size A n c i.natAbs) (h' : Num w w.heap.size A' n' c' j.natAbs) (hn : n ≤ 1000) (hn' : n' ≤ 1000) (hs : s ≤ 4010) (ht : t ≤ 4010) (hT : bs9 T = [45]) :
  Calls Tryz.prog 79 #[.agg #[.bool (ngB i), .slice A n c, .int .i64 (s : Int)], .string T, .agg #[.bool (ngB j), .slice A' n' c', .int .i64 (t : Int)]] w (RetQ w (jnd 45 i s j t)) := by
 show Calls _ _ _ _ (RetQ w ((subZ i s j t, max s t, 0)))
 have l43 : (T.toList == [43]) = false := lit_not (l := [43]) (by rw [hT]; decide)
 have l45 : (T.toList == [45]) = true := lit_yes (l := [45]) hT
 obtain ⟨x, hx⟩ : ∃ x, subZ i s j t = x := ⟨_, rfl⟩
 obtain ⟨M, hM⟩ : ∃ M, max s t = M := ⟨_, rfl⟩
 have HX := Lib.hid hx
 have HM := Lib.hid hM
 rw [hx, hM]
 clear hx hM
 clear hT
 go_enter Tryz.func79, Tryz.ntmps79
 go_wp2_with fail
 have E := Lib.hid ((((St.start w (l := [(A, n, c, i.natAbs), (A', n', c', j.natAbs)]) (by intro q hq; simp at hq; rcases hq with rfl | rfl; exact h; exact h')).alloc (.cells #[.bool (ngB i), .slice A n c, .int .i64 (s : Int)] 26)).alloc (.cells #[.bool (ngB j), .slice A' n' c', .int .i64 (t : Int)] 26)).lay (g := w.heap.size + 1 + 1) (x0 := .bool false) (x1 := .slice none 0 0) (x2 := .int .i64 0) (t := 26) (by simp))
 generalize hW : World.alloc (World.alloc (World.alloc w _) _) _ = W0 at E ⊢
 clear hW
 refine (sub_is5 (i := i) (j := j) (s := s) (t := t) (St.got (A := A) (n := n) (c := c) E (by simp)) (St.got (A := A') (n := n') (c := c') E (by simp)) (by omega) (by omega) (by omega) (by omega) HM.out HX.out).mono ?_; rintro e w1 ⟨A2, n2, c2, rfl, hnum2, hb2⟩
 replace E := Lib.hid (St.push E.out hb2 hnum2)
 clear hnum2 hb2
 obtain ⟨r0, r1, r2, rf0, rf1, rf2, rlt⟩ := St.az (g := w.heap.size + 1 + 1) E (by simp)
 go_wp2_with fail
 clear r0 r1 r2 rf0 rf1 rf2 rlt
 have EF := Lib.hid (St.sz E.out (g := (w.heap.size + 1 + 1)) (by simp) (.bool (ngB (x))) (.slice A2 n2 c2) (.int .i64 (M : Int)))
 obtain ⟨r0, r1, r2, _, _, _, _⟩ := St.ad (x) A2 n2 c2 M (g := w.heap.size + 1 + 1) EF (by simp)
 exact bodyPost_ret (v := .tuple #[.agg #[.bool (ngB (x)), .slice A2 n2 c2, .int .i64 (M : Int)], .int .i64 0]) (by simp [results, Tryz.results79, go_sem, r0, r1, r2]) rfl ⟨A2, n2, c2, rfl, St.got EF (by simp), EF.out.bel⟩
theorem pjoin_mul {A A' : Option Addr} {n c n' c' s t : Nat} {i j : Int} {w : World} {T : ByteArray} (h : Num w w.heap.size A n c i.natAbs) (h' : Num w w.heap.size A' n' c' j.natAbs) (hn : n ≤ 1000) (hn' : n' ≤ 1000) (hs : s ≤ 4010) (ht : t ≤ 4010) (hT : bs9 T = [42]) :
  Calls Tryz.prog 79 #[.agg #[.bool (ngB i), .slice A n c, .int .i64 (s : Int)], .string T, .agg #[.bool (ngB j), .slice A' n' c', .int .i64 (t : Int)]] w (RetQ w (jnd 42 i s j t)) := by
 show Calls _ _ _ _ (RetQ w ((i * j, s + t, 0)))
 have l43 : (T.toList == [43]) = false := lit_not (l := [43]) (by rw [hT]; decide)
 have l45 : (T.toList == [45]) = false := lit_not (l := [45]) (by rw [hT]; decide)
 have l42 : (T.toList == [42]) = true := lit_yes (l := [42]) hT
 obtain ⟨x, hx⟩ : ∃ x, i * j = x := ⟨_, rfl⟩
 obtain ⟨M, hM⟩ : ∃ M, s + t = M := ⟨_, rfl⟩
 have HX := Lib.hid hx
 have HM := Lib.hid hM
 rw [hx, hM]
 clear hx hM
 clear hT
 go_enter Tryz.func79, Tryz.ntmps79
 go_wp2_with fail
 have E := Lib.hid ((((St.start w (l := [(A, n, c, i.natAbs), (A', n', c', j.natAbs)]) (by intro q hq; simp at hq; rcases hq with rfl | rfl; exact h; exact h')).alloc (.cells #[.bool (ngB i), .slice A n c, .int .i64 (s : Int)] 26)).alloc (.cells #[.bool (ngB j), .slice A' n' c', .int .i64 (t : Int)] 26)).lay (g := w.heap.size + 1 + 1) (x0 := .bool false) (x1 := .slice none 0 0) (x2 := .int .i64 0) (t := 26) (by simp))
 generalize hW : World.alloc (World.alloc (World.alloc w _) _) _ = W0 at E ⊢
 clear hW
 refine (mul_is5 (i := i) (j := j) (s := s) (t := t) (St.got (A := A) (n := n) (c := c) E (by simp)) (St.got (A := A') (n := n') (c := c') E (by simp)) (by omega) (by omega) (by omega) (by omega) HM.out HX.out).mono ?_; rintro e w1 ⟨A2, n2, c2, rfl, hnum2, hb2⟩
 replace E := Lib.hid (St.push E.out hb2 hnum2)
 clear hnum2 hb2
 obtain ⟨r0, r1, r2, rf0, rf1, rf2, rlt⟩ := St.az (g := w.heap.size + 1 + 1) E (by simp)
 go_wp2_with fail
 clear r0 r1 r2 rf0 rf1 rf2 rlt
 have EF := Lib.hid (St.sz E.out (g := (w.heap.size + 1 + 1)) (by simp) (.bool (ngB (x))) (.slice A2 n2 c2) (.int .i64 (M : Int)))
 obtain ⟨r0, r1, r2, _, _, _, _⟩ := St.ad (x) A2 n2 c2 M (g := w.heap.size + 1 + 1) EF (by simp)
 exact bodyPost_ret (v := .tuple #[.agg #[.bool (ngB (x)), .slice A2 n2 c2, .int .i64 (M : Int)], .int .i64 0]) (by simp [results, Tryz.results79, go_sem, r0, r1, r2]) rfl ⟨A2, n2, c2, rfl, St.got EF (by simp), EF.out.bel⟩
theorem pjoin_quo {A A' : Option Addr} {n c n' c' s t : Nat} {i j : Int} {w : World} {T : ByteArray} (h : Num w w.heap.size A n c i.natAbs) (h' : Num w w.heap.size A' n' c' j.natAbs) (hn : n ≤ 1000) (hn' : n' ≤ 1000) (hs : s ≤ 4010) (ht : t ≤ 4010) (hl : j ≠ 0 → (dg (quoQ i s j t).natAbs).length ≤ 1000) (hT : bs9 T = [47]) :
  Calls Tryz.prog 79 #[.agg #[.bool (ngB i), .slice A n c, .int .i64 (s : Int)], .string T, .agg #[.bool (ngB j), .slice A' n' c', .int .i64 (t : Int)]] w (RetQ w (jnd 47 i s j t)) := by
 show Calls _ _ _ _ (RetQ w (quv i s j t))
 have l43 : (T.toList == [43]) = false := lit_not (l := [43]) (by rw [hT]; decide)
 have l45 : (T.toList == [45]) = false := lit_not (l := [45]) (by rw [hT]; decide)
 have l42 : (T.toList == [42]) = false := lit_not (l := [42]) (by rw [hT]; decide)
 obtain ⟨q, hq⟩ : ∃ q, quv i s j t = q := ⟨_, rfl⟩
 have HQ := Lib.hid hq
 have HL := Lib.hid hl
 rw [hq]
 clear hq hl
 clear hT
 go_enter Tryz.func79, Tryz.ntmps79
 go_wp2_with fail
 have E := Lib.hid ((((St.start w (l := [(A, n, c, i.natAbs), (A', n', c', j.natAbs)]) (by intro q hq; simp at hq; rcases hq with rfl | rfl; exact h; exact h')).alloc (.cells #[.bool (ngB i), .slice A n c, .int .i64 (s : Int)] 26)).alloc (.cells #[.bool (ngB j), .slice A' n' c', .int .i64 (t : Int)] 26)).lay (g := w.heap.size + 1 + 1) (x0 := .bool false) (x1 := .slice none 0 0) (x2 := .int .i64 0) (t := 26) (by simp))
 generalize hW : World.alloc (World.alloc (World.alloc w _) _) _ = W0 at E ⊢
 clear hW
 refine (pquo (i := i) (j := j) (s := s) (t := t) (St.got (A := A) (n := n) (c := c) E (by simp)) (St.got (A := A') (n := n') (c := c') E (by simp)) hn hn' hs ht HL.out).mono ?_; rintro e w1 ⟨A2, n2, c2, rfl, hnum2, hb2⟩
 rw [HQ.out] at hnum2 ⊢
 replace E := Lib.hid (St.push E.out hb2 hnum2)
 clear hnum2 hb2
 obtain ⟨r0, r1, r2, rf0, rf1, rf2, rlt⟩ := St.az (g := w.heap.size + 1 + 1) E (by simp)
 go_wp2_with fail
 clear r0 r1 r2 rf0 rf1 rf2 rlt
 have EF := Lib.hid (St.sz E.out (g := (w.heap.size + 1 + 1)) (by simp) (.bool (ngB (q.1))) (.slice A2 n2 c2) (.int .i64 (q.2.1 : Int)))
 obtain ⟨r0, r1, r2, _, _, _, _⟩ := St.ad (q.1) A2 n2 c2 q.2.1 (g := w.heap.size + 1 + 1) EF (by simp)
 exact bodyPost_ret (v := .tuple #[.agg #[.bool (ngB (q.1)), .slice A2 n2 c2, .int .i64 (q.2.1 : Int)], .int .i64 (q.2.2 : Int)]) (by simp [results, Tryz.results79, go_sem, r0, r1, r2]) rfl ⟨A2, n2, c2, rfl, St.got EF (by simp), EF.out.bel⟩
theorem pjoin {A A' : Option Addr} {n c n' c' s t : Nat} {i j : Int} {w : World} {T : ByteArray} (h : Num w w.heap.size A n c i.natAbs) (h' : Num w w.heap.size A' n' c' j.natAbs) (hn : n ≤ 1000) (hn' : n' ≤ 1000) (hs : s ≤ 4010) (ht : t ≤ 4010) {x : Nat} (hc : x = 43 ∨ x = 45 ∨ x = 42 ∨ x = 47) (hl : x = 47 → j ≠ 0 → (dg (quoQ i s j t).natAbs).length ≤ 1000) (hT : bs9 T = [x]) :
  Calls Tryz.prog 79 #[.agg #[.bool (ngB i), .slice A n c, .int .i64 (s : Int)], .string T, .agg #[.bool (ngB j), .slice A' n' c', .int .i64 (t : Int)]] w (RetQ w (jnd x i s j t)) := by
 rcases hc with rfl | rfl | rfl | rfl
 ·exact pjoin_add h h' hn hn' hs ht hT
 ·exact pjoin_sub h h' hn hn' hs ht hT
 ·exact pjoin_mul h h' hn hn' hs ht hT
 ·exact pjoin_quo h h' hn hn' hs ht (hl rfl) hT
def OutX (x : Int) (k i' e' : Nat) : Rs → Prop
 | .inl (z, b) => 0 < z ∧ e' = z ∧ i' = b ∧ x = 0 ∧ k = 0
 | .inr (y, t, b) => x = y ∧ k = t ∧ i' = b ∧ e' = 0
def RetX (w0 : World) (g : Nat) (A : Option Addr) (n c d : Nat) (r : Rs) (e : Ending) (w' : World) : Prop :=
 ∃ (x : Int) (k : Nat) (A1 : Option Addr) (n1 c1 i' e' : Nat), e = .returned (.tuple #[.agg #[.bool (ngB x), .slice A1 n1 c1, .int .i64 (k : Int)], .int .i64 (e' : Int)]) ∧ Num w' w'.heap.size A1 n1 c1 x.natAbs ∧ StP w' g A n c i' d ∧ Kp g none w0 w' ∧ OutX x k i' e' r
theorem sy_start {w : World} {g B n c i d : Nat} {A : Option Addr} {L : List Tk4} (hs : StP w g A n c i d) (hr : RdK w B A n c L) (hm : MaxLen w) (hp : B ≤ g) :
 SY w (w.alloc (.cells #[.bool false, .slice none 0 0, .int .i64 0] 26)) g B A n c L i d [] [(w.heap.size, .bool false, .slice none 0 0, .int .i64 0)] [] := (SY.start hs hr hm hp).lay rfl
theorem pparse (s : ByteArray) (w : World) (hs : s.size ≤ 1000) (hm : MaxLen w) : Calls Tryz.prog 149 #[.string s] w (RetP w s) := by
 refine (read_any s w hs hm).mono fun e w' h => ?_
 have h0 : Num w' w'.heap.size none 0 0 (0 : Int).natAbs := num_zero _ _
 rcases h with ⟨h1, h2⟩ | ⟨h1, h2, h3⟩ | ⟨h1, h2, A, n, c, h3, h4, h5⟩
 ·exact ⟨0, 0, none, 0, 0, 2, h2.1, h0, h2.2, by unfold numV; rw [if_neg (fun e => e.1 h1)]; rfl⟩
 ·exact ⟨0, 0, none, 0, 0, 3, h3.1, h0, h3.2, by unfold numV; rw [if_neg (fun e => by rw [h2] at e; cases e.2)]; rfl⟩
 ·exact ⟨_, _, A, n, c, 0, h3, h4, h5, by unfold numV; rw [if_pos ⟨h1, h2⟩]; rfl⟩
def numR (T : ByteArray) (i : Nat) : Rs := match numV T with | none => .inl (3, i) | some (x, k) => .inr (x, k, i + 1)
theorem pnumber {w : World} {g B n c i d : Nat} {A : Option Addr} {L : List Tk4} (hs : StP w g A n c i d) (hr : RdK w B A n c L) (hm : MaxLen w) (hp : B ≤ g) (hi : i ≤ 1000) (T : ByteArray) (hT : T.size ≤ 1000) : Calls Tryz.prog 119 #[.pointer (some ⟨g, 0, none⟩), .string T] w (RetX w g A n c d (numR T i)) := by
 have E := Lib.hid (sy_start hs hr hm hp)
 have hgw := hs.lt
 clear hs hr hm
 go_enter Tryz.func119, Tryz.ntmps119
 go_wp2_with fail
 generalize hW : World.alloc w _ = W1 at E ⊢
 clear hW
 refine (pparse T _ hT E.out.mx).mono ?_; rintro e w5 ⟨x5, k5, A5, n5, c5, z5, rfl, hn5, hb5, hv5⟩
 replace E := Lib.hid (SY.push (SY.step E.out hb5) hn5)
 have HV := Lib.hid hv5
 clear hn5 hb5 hv5
 have EL := Lib.hid (SY.lay (g1 := w5.heap.size) (x0 := .bool (ngB x5)) (x1 := .slice A5 n5 c5) (x2 := .int .i64 (k5 : Int)) (t := 26) E.out rfl)
 rcases Nat.eq_zero_or_pos z5 with hz | hz
 ·have dz : ((z5 : Int) != 0) = false := by rw [hz]; rfl
  obtain ⟨i1, hi1⟩ : ∃ i1, i + 1 = i1 := ⟨_, rfl⟩
  have HR : Hid (numR T i = .inr (x5, k5, i1)) := by
   show _ = _
   unfold numR; rw [HV.out, if_pos hz, hi1]
  have HI := Lib.hid hi1
  clear hz hi1 E
  go_wp2_with fail
  obtain ⟨g5, hg5⟩ : ∃ g, w5.heap.size = g := ⟨_, rfl⟩
  rw [hg5] at EL ⊢
  clear hg5
  generalize hV : World.alloc w5 _ = V5 at EL ⊢
  clear hV
  refine (ppass EL.out.st (by omega) i1 HI.out).mono ?_; rintro e w6 ⟨rfl, rfl⟩
  have E := Lib.hid (SY.set1 EL.out i1)
  clear EL
  obtain ⟨q0, q1, q2, qf0, qf1, qf2, qlt⟩ := SY.ad x5 A5 n5 c5 k5 (g1 := g5) E (by simp)
  obtain ⟨r0, r1, r2, rf0, rf1, rf2, rlt⟩ := SY.az (g1 := w.heap.size) E (by simp)
  go_wp2_with fail
  clear q0 q1 q2 qf0 qf1 qf2 qlt
  clear r0 r1 r2 rf0 rf1 rf2 rlt
  have EF := Lib.hid (SY.pz E.out (g1 := w.heap.size) (by simp) (.bool (ngB x5)) (.slice A5 n5 c5) (.int .i64 (k5 : Int)))
  obtain ⟨r0, r1, r2, _, _, _, _⟩ := SY.ad x5 A5 n5 c5 k5 (g1 := w.heap.size) EF (by simp)
  exact bodyPost_ret (v := .tuple #[.agg #[.bool (ngB x5), .slice A5 n5 c5, .int .i64 (k5 : Int)], .int .i64 0]) (by simp [results, Tryz.results119, go_sem, r0, r1, r2]) rfl ⟨x5, k5, A5, n5, c5, i1, 0, rfl, SY.got EF (by simp), EF.out.st, EF.out.kp, by rw [HR.out]; exact ⟨rfl, rfl, rfl, rfl⟩⟩
 ·have dz : ((z5 : Int) != 0) = true := by rw [bne_iff_ne]; omega
  have HR : Hid (numR T i = .inl (3, i)) := by
   show _ = _
   unfold numR; rw [HV.out, if_neg (by omega)]
  clear hz
  obtain ⟨r0, r1, r2, rf0, rf1, rf2, rlt⟩ := SY.az (g1 := w.heap.size) EL (by simp)
  go_wp2_with fail
  clear r0 r1 r2 rf0 rf1 rf2 rlt
  have EF := Lib.hid (SY.pz EL.out (g1 := w.heap.size) (by simp) (.bool false) (.slice none 0 0) (.int .i64 0))
  obtain ⟨r0, r1, r2, _, _, _, _⟩ := SY.az (g1 := w.heap.size) EF (by simp)
  exact bodyPost_ret (v := .tuple #[.agg #[.bool false, .slice none 0 0, .int .i64 0], .int .i64 3]) (by simp [results, Tryz.results119, go_sem, r0, r1, r2]) rfl ⟨0, 0, none, 0, 0, i, 3, rfl, num_zero _ _, EF.out.st, EF.out.kp, by rw [HR.out]; exact ⟨by omega, rfl, rfl, rfl, rfl⟩⟩
def SumP (L : List Tk4) (i : Nat) : Prop := ∀ {w : World} {g B n c d : Nat} {A : Option Addr}, StP w g A n c i d → RdK w B A n c L → MaxLen w → B ≤ g → n ≤ 200 → d ≤ 64 → Calls Tryz.prog 25 #[.pointer (some ⟨g, 0, none⟩)] w (RetX w g A n c d (SUM (L.map tok) d i))
def ProP (L : List Tk4) (i : Nat) : Prop := ∀ {w : World} {g B n c d : Nat} {A : Option Addr}, StP w g A n c i d → RdK w B A n c L → MaxLen w → B ≤ g → n ≤ 200 → d ≤ 64 → Calls Tryz.prog 47 #[.pointer (some ⟨g, 0, none⟩)] w (RetX w g A n c d (PRO (L.map tok) d i))
def FacP (L : List Tk4) (i : Nat) : Prop := ∀ {w : World} {g B n c d : Nat} {A : Option Addr}, StP w g A n c i d → RdK w B A n c L → MaxLen w → B ≤ g → n ≤ 200 → d ≤ 64 → Calls Tryz.prog 80 #[.pointer (some ⟨g, 0, none⟩)] w (RetX w g A n c d (FAC (L.map tok) d i))
theorem pshut {w : World} {g B n c i d : Nat} {A : Option Addr} {L : List Tk4} (hs : StP w g A n c i d) (hr : RdK w B A n c L) (hm : MaxLen w) (hp : B ≤ g) (hn : n ≤ 200) (hd : d ≤ 64) (HC : SumP L i) : Calls Tryz.prog 153 #[.pointer (some ⟨g, 0, none⟩)] w (RetX w g A n c d (Rs.shut (L.map tok) (SUM (L.map tok) d i))) := by
 have hlen := hr.len
 have hgw := hs.lt
 have E := Lib.hid (sy_start hs hr hm hp)
 have hlt : ∀ j t b, SUM (L.map tok) d i = .inr (j, t, b) → b ≤ n := fun j t b h => by have := (SUM_lt h rfl).2; rw [List.length_map] at this; omega
 have HLT := Lib.hid hlt
 have HLEN := Lib.hid hlen
 clear hs hr hm hlt hlen
 go_enter Tryz.func153, Tryz.ntmps153
 go_wp2_with fail
 generalize hW : World.alloc w _ = W1 at E ⊢
 clear hW
 refine (HC E.out.st E.out.rd E.out.mx hp hn hd).mono ?_; rintro e w9 ⟨x9, k9, A9, n9, c9, i9, e9, rfl, hnum9, hst9, hkp9, hout⟩
 replace E := Lib.hid (SY.push (SY.call E.out hkp9 hst9) hnum9)
 clear hnum9 hst9 hkp9
 cases hS : SUM (L.map tok) d i with
 | inl r =>
  obtain ⟨z, b⟩ := r
  rw [hS] at hout
  obtain ⟨hz, rfl, rfl, -, -⟩ := hout
  have dz : ((e9 : Int) != 0) = true := by rw [bne_iff_ne]; omega
  have HO : Hid (Rs.shut (L.map tok) (SUM (L.map tok) d i) = .inl (e9, i9)) := by show _ = _; rw [hS]; rfl
  have EL := Lib.hid (SY.lay (g1 := w9.heap.size) (x0 := .bool (ngB x9)) (x1 := .slice A9 n9 c9) (x2 := .int .i64 (k9 : Int)) (t := 26) E.out rfl)
  clear hS
  obtain ⟨r0, r1, r2, rf0, rf1, rf2, rlt⟩ := SY.az (g1 := w.heap.size) EL (by simp)
  go_wp2_with fail
  clear r0 r1 r2 rf0 rf1 rf2 rlt
  have EF := Lib.hid (SY.pz EL.out (g1 := w.heap.size) (by simp) (.bool false) (.slice none 0 0) (.int .i64 0))
  obtain ⟨r0, r1, r2, _, _, _, _⟩ := SY.az (g1 := w.heap.size) EF (by simp)
  exact bodyPost_ret (v := .tuple #[.agg #[.bool false, .slice none 0 0, .int .i64 0], .int .i64 (e9 : Int)]) (by simp [results, Tryz.results153, go_sem, r0, r1, r2]) rfl ⟨0, 0, none, 0, 0, i9, e9, rfl, num_zero _ _, EF.out.st, EF.out.kp, by rw [HO.out]; exact ⟨hz, rfl, rfl, rfl, rfl⟩⟩
 | inr r =>
  obtain ⟨j, s, b⟩ := r
  have hbn := HLT.out _ _ _ hS
  rw [hS] at hout
  obtain ⟨rfl, rfl, rfl, rfl⟩ := hout
  have HS := Lib.hid hS
  clear hS
  go_wp2_with fail
  replace E := Lib.hid (SY.lay (g1 := w9.heap.size) (x0 := .bool (ngB x9)) (x1 := .slice A9 n9 c9) (x2 := .int .i64 (k9 : Int)) (t := 26) E.out rfl)
  obtain ⟨g9, hg9⟩ : ∃ g, w9.heap.size = g := ⟨_, rfl⟩
  rw [hg9] at E ⊢
  clear hg9
  generalize hV : World.alloc w9 _ = V9 at E ⊢
  clear hV
  rcases Nat.lt_or_ge i9 n with hin | hin
  ·obtain ⟨t, ht⟩ : ∃ t, L[i9]? = some t := ⟨_, List.getElem?_eq_getElem (by have := HLEN.out; omega)⟩
   obtain ⟨k, T, l, m⟩ := t
   refine (pnext_some E.out.st E.out.rd (by have := E.out.pl; have := E.out.st.lt; omega) (by omega) ht).mono ?_; rintro e w10 ⟨rfl, hb⟩
   replace E := Lib.hid (SY.step E.out hb)
   clear hb
   unfold tk4
   go_wp2_with fail
   have SG := Lib.hid (sgn_one (World.alloc w10 (.cells #[.int .i64 k, .string T, .int .i64 l, .int .i64 m] 39)) ⟨#[41]⟩ 9 (q := w10.heap.size + 1) (by simp))
   have ES := Lib.hid ((SY.word (g1 := w10.heap.size) E.out k T l m (t := 39) rfl).alloc (.cells #[.string ⟨#[41]⟩] 9))
   clear E
   obtain ⟨g10, hg10⟩ : ∃ g, w10.heap.size = g := ⟨_, rfl⟩
   rw [hg10] at ES SG ⊢
   clear hg10
   generalize hV : World.alloc (World.alloc w10 _) _ = V10 at ES SG ⊢
   clear hV
   cases hI : isAt (L.map tok) i9 41 with
   | true =>
    have HO : Hid (Rs.shut (L.map tok) (SUM (L.map tok) d i) = .inr (x9, k9, i9 + 1)) := by
     show _ = _
     rw [HS.out]
     unfold Rs.shut
     dsimp only
     rw [if_pos hI]
    have HI : Hid (isgs (k, T) [⟨#[41]⟩] = true) := by
     show _ = _
     rw [isgs_one _ (x := 41) rfl, ← hI, isAt_some ht]
    clear hI
    refine (pissign SG.out HI.out l m).mono ?_; rintro e w11 ⟨rfl, hb⟩
    have E := Lib.hid (SY.step ES.out hb)
    clear hb ES SG
    obtain ⟨i1, hi1⟩ : ∃ i1, i9 + 1 = i1 := ⟨_, rfl⟩
    have HI1 := Lib.hid hi1
    rw [hi1] at HO
    clear hi1
    go_wp2_with fail
    refine (ppass E.out.st (by omega) i1 HI1.out).mono ?_; rintro e w12 ⟨rfl, rfl⟩
    replace E := Lib.hid (SY.set1 E.out i1)
    obtain ⟨q0, q1, q2, qf0, qf1, qf2, qlt⟩ := SY.ad x9 A9 n9 c9 k9 (g1 := g9) E (by simp)
    obtain ⟨r0, r1, r2, rf0, rf1, rf2, rlt⟩ := SY.az (g1 := w.heap.size) E (by simp)
    go_wp2_with fail
    clear q0 q1 q2 qf0 qf1 qf2 qlt
    clear r0 r1 r2 rf0 rf1 rf2 rlt
    have EF := Lib.hid (SY.pz E.out (g1 := w.heap.size) (by simp) (.bool (ngB x9)) (.slice A9 n9 c9) (.int .i64 (k9 : Int)))
    obtain ⟨r0, r1, r2, _, _, _, _⟩ := SY.ad x9 A9 n9 c9 k9 (g1 := w.heap.size) EF (by simp)
    exact bodyPost_ret (v := .tuple #[.agg #[.bool (ngB x9), .slice A9 n9 c9, .int .i64 (k9 : Int)], .int .i64 0]) (by simp [results, Tryz.results153, go_sem, r0, r1, r2]) rfl ⟨x9, k9, A9, n9, c9, i1, 0, rfl, SY.got EF (by simp), EF.out.st, EF.out.kp, by rw [HO.out]; exact ⟨rfl, rfl, rfl, rfl⟩⟩
   | false =>
    have HO : Hid (Rs.shut (L.map tok) (SUM (L.map tok) d i) = .inl (3, i9)) := by
     show _ = _
     rw [HS.out]
     unfold Rs.shut
     dsimp only
     rw [if_neg (by rw [hI]; decide), if_pos (by rw [List.length_map]; have := HLEN.out; omega)]
    have HI : Hid (isgs (k, T) [⟨#[41]⟩] = false) := by
     show _ = _
     rw [isgs_one _ (x := 41) rfl, ← hI, isAt_some ht]
    clear hI
    refine (pissign SG.out HI.out l m).mono ?_; rintro e w11 ⟨rfl, hb⟩
    have E := Lib.hid (SY.step ES.out hb)
    clear hb ES SG
    obtain ⟨r0, r1, r2, rf0, rf1, rf2, rlt⟩ := SY.az (g1 := w.heap.size) E (by simp)
    go_wp2_with fail
    clear r0 r1 r2 rf0 rf1 rf2 rlt
    have EF := Lib.hid (SY.pz E.out (g1 := w.heap.size) (by simp) (.bool false) (.slice none 0 0) (.int .i64 0))
    obtain ⟨r0, r1, r2, _, _, _, _⟩ := SY.az (g1 := w.heap.size) EF (by simp)
    exact bodyPost_ret (v := .tuple #[.agg #[.bool false, .slice none 0 0, .int .i64 0], .int .i64 3]) (by simp [results, Tryz.results153, go_sem, r0, r1, r2]) rfl ⟨0, 0, none, 0, 0, i9, 3, rfl, num_zero _ _, EF.out.st, EF.out.kp, by rw [HO.out]; exact ⟨by omega, rfl, rfl, rfl, rfl⟩⟩
  ·obtain rfl : i9 = n := by omega
   refine (pnext_end E.out.st rfl).mono ?_; rintro e w10 ⟨rfl, hb⟩
   replace E := Lib.hid (SY.step E.out hb)
   clear hb
   have EL := Lib.hid (SY.word (g1 := w10.heap.size) E.out 0 ⟨#[]⟩ 0 0 (t := 39) rfl)
   have HO : Hid (Rs.shut (L.map tok) (SUM (L.map tok) d i) = .inl (2, i9)) := by
    show _ = _
    rw [HS.out]
    unfold Rs.shut
    dsimp only
    rw [isAt_none (by have := HLEN.out; omega), if_neg (by decide), if_neg (by rw [List.length_map]; have := HLEN.out; omega)]
   obtain ⟨r0, r1, r2, rf0, rf1, rf2, rlt⟩ := SY.az (g1 := w.heap.size) EL (by simp)
   go_wp2_with fail
   clear r0 r1 r2 rf0 rf1 rf2 rlt
   have EF := Lib.hid (SY.pz EL.out (g1 := w.heap.size) (by simp) (.bool false) (.slice none 0 0) (.int .i64 0))
   obtain ⟨r0, r1, r2, _, _, _, _⟩ := SY.az (g1 := w.heap.size) EF (by simp)
   exact bodyPost_ret (v := .tuple #[.agg #[.bool false, .slice none 0 0, .int .i64 0], .int .i64 2]) (by simp [results, Tryz.results153, go_sem, r0, r1, r2]) rfl ⟨0, 0, none, 0, 0, i9, 2, rfl, num_zero _ _, EF.out.st, EF.out.kp, by rw [HO.out]; exact ⟨by omega, rfl, rfl, rfl, rfl⟩⟩
theorem pbeh_open {w : World} {g B n c i d : Nat} {A : Option Addr} {L : List Tk4} (hs : StP w g A n c i d) (hr : RdK w B A n c L) (hm : MaxLen w) (hp : B ≤ g) (hn : n ≤ 200) (hd : d ≤ 64) {R : Rs} (HC : ∀ w' : World, StP w' g A n c i d → RdK w' B A n c L → MaxLen w' → Calls Tryz.prog 153 #[.pointer (some ⟨g, 0, none⟩)] w' (RetX w' g A n c d R)) {T : ByteArray} (hT : bs9 T = [40]) : Calls Tryz.prog 120 #[.pointer (some ⟨g, 0, none⟩), .string T] w (RetX w g A n c d R) := by
 have hlen := hr.len
 have hgw := hs.lt
 have E := Lib.hid (sy_start hs hr hm hp)
 have l40 : (T.toList == [40]) = true := lit_yes (l := [40]) hT
 clear hs hr hm hT
 go_enter Tryz.func120, Tryz.ntmps120
 go_wp2_with fail
 generalize hW : World.alloc w _ = W1 at E ⊢
 clear hW
 refine (HC _ E.out.st E.out.rd E.out.mx).mono ?_; rintro e w9 ⟨x9, k9, A9, n9, c9, i9, e9, rfl, hnum9, hst9, hkp9, hout⟩
 replace E := Lib.hid (SY.push (SY.call E.out hkp9 hst9) hnum9)
 clear hnum9 hst9 hkp9
 have HO := Lib.hid hout
 clear hout
 obtain ⟨r0, r1, r2, rf0, rf1, rf2, rlt⟩ := SY.az (g1 := w.heap.size) E (by simp)
 go_wp2_with fail
 clear r0 r1 r2 rf0 rf1 rf2 rlt
 have EF := Lib.hid (SY.pz E.out (g1 := w.heap.size) (by simp) (.bool (ngB x9)) (.slice A9 n9 c9) (.int .i64 (k9 : Int)))
 obtain ⟨r0, r1, r2, _, _, _, _⟩ := SY.ad x9 A9 n9 c9 k9 (g1 := w.heap.size) EF (by simp)
 exact bodyPost_ret (v := .tuple #[.agg #[.bool (ngB x9), .slice A9 n9 c9, .int .i64 (k9 : Int)], .int .i64 (e9 : Int)]) (by simp [results, Tryz.results120, go_sem, r0, r1, r2]) rfl ⟨x9, k9, A9, n9, c9, i9, e9, rfl, SY.got EF (by simp), EF.out.st, EF.out.kp, HO.out⟩
theorem pbeh_plus {w : World} {g B n c i d : Nat} {A : Option Addr} {L : List Tk4} (hs : StP w g A n c i d) (hr : RdK w B A n c L) (hm : MaxLen w) (hp : B ≤ g) (hn : n ≤ 200) (hd : d ≤ 64) {G : Nat → Nat → Int → Nat → Prop} (hL : Siz (L.map tok) G) (HC : FacP L i) {T : ByteArray} (hT : bs9 T = [43]) : Calls Tryz.prog 120 #[.pointer (some ⟨g, 0, none⟩), .string T] w (RetX w g A n c d (Rs.neg false (FAC (L.map tok) d i))) := by
 have hlen := hr.len
 have hgw := hs.lt
 have E := Lib.hid (sy_start hs hr hm hp)
 have l40 : (T.toList == [40]) = false := lit_not (l := [40]) (by rw [hT]; decide)
 have l43 : (T.toList == [43]) = true := lit_yes (l := [43]) hT
 have HLEN := Lib.hid hlen
 have HL := Lib.hid hL
 clear hs hr hm hT hlen hL
 go_enter Tryz.func120, Tryz.ntmps120
 go_wp2_with fail
 generalize hW : World.alloc w _ = W1 at E ⊢
 clear hW
 refine (HC E.out.st E.out.rd E.out.mx hp hn hd).mono ?_; rintro e w9 ⟨x9, k9, A9, n9, c9, i9, e9, rfl, hnum9, hst9, hkp9, hout⟩
 replace E := Lib.hid (SY.push (SY.call E.out hkp9 hst9) hnum9)
 clear hnum9 hst9 hkp9
 cases hF : FAC (L.map tok) d i with
 | inl r =>
  obtain ⟨z, b⟩ := r
  rw [hF] at hout
  obtain ⟨hz, rfl, rfl, hx, hk⟩ := hout
  have HX := Lib.hid hx
  have HK := Lib.hid hk
  have dz : ((e9 : Int) != 0) = true := by rw [bne_iff_ne]; omega
  have HO : Hid (Rs.neg false (FAC (L.map tok) d i) = .inl (e9, i9)) := by show _ = _; rw [hF]; rfl
  have EL := Lib.hid (SY.lay (g1 := w9.heap.size) (x0 := .bool (ngB x9)) (x1 := .slice A9 n9 c9) (x2 := .int .i64 (k9 : Int)) (t := 26) E.out rfl)
  clear hF hx hk E
  obtain ⟨q0, q1, q2, qf0, qf1, qf2, qlt⟩ := SY.ad x9 A9 n9 c9 k9 (g1 := w9.heap.size) EL (by simp)
  obtain ⟨r0, r1, r2, rf0, rf1, rf2, rlt⟩ := SY.az (g1 := w.heap.size) EL (by simp)
  go_wp2_with fail
  clear q0 q1 q2 qf0 qf1 qf2 qlt
  clear r0 r1 r2 rf0 rf1 rf2 rlt
  have EF := Lib.hid (SY.pz EL.out (g1 := w.heap.size) (by simp) (.bool (ngB x9)) (.slice A9 n9 c9) (.int .i64 (k9 : Int)))
  obtain ⟨r0, r1, r2, _, _, _, _⟩ := SY.ad x9 A9 n9 c9 k9 (g1 := w.heap.size) EF (by simp)
  exact bodyPost_ret (v := .tuple #[.agg #[.bool (ngB x9), .slice A9 n9 c9, .int .i64 (k9 : Int)], .int .i64 (e9 : Int)]) (by simp [results, Tryz.results120, go_sem, r0, r1, r2]) rfl ⟨x9, k9, A9, n9, c9, i9, e9, rfl, SY.got EF (by simp), EF.out.st, EF.out.kp, by rw [HO.out]; exact ⟨hz, rfl, rfl, HX.out, HK.out⟩⟩
 | inr r =>
  obtain ⟨j, s, b⟩ := r
  rw [hF] at hout
  obtain ⟨rfl, rfl, rfl, rfl⟩ := hout
  have hfit := HL.out.fits (HL.out.fac hF)
  have hn9 : n9 ≤ 1000 := by have := (SY.got E (A1 := A9) (n1 := n9) (c1 := c9) (x := x9.natAbs) (by simp)).len; omega
  have hk9 : k9 ≤ 4010 := hfit.2
  have HO : Hid (Rs.neg false (FAC (L.map tok) d i) = .inr (x9, k9, i9)) := by show _ = _; rw [hF]; rfl
  clear hF hfit
  have EL := Lib.hid (SY.lay (g1 := w9.heap.size) (x0 := .bool (ngB x9)) (x1 := .slice A9 n9 c9) (x2 := .int .i64 (k9 : Int)) (t := 26) E.out rfl)
  clear E
  obtain ⟨q0, q1, q2, qf0, qf1, qf2, qlt⟩ := SY.ad x9 A9 n9 c9 k9 (g1 := w9.heap.size) EL (by simp)
  obtain ⟨r0, r1, r2, rf0, rf1, rf2, rlt⟩ := SY.az (g1 := w.heap.size) EL (by simp)
  go_wp2_with fail
  clear q0 q1 q2 qf0 qf1 qf2 qlt
  clear r0 r1 r2 rf0 rf1 rf2 rlt
  have EF := Lib.hid (SY.pz EL.out (g1 := w.heap.size) (by simp) (.bool (ngB x9)) (.slice A9 n9 c9) (.int .i64 (k9 : Int)))
  obtain ⟨r0, r1, r2, _, _, _, _⟩ := SY.ad x9 A9 n9 c9 k9 (g1 := w.heap.size) EF (by simp)
  exact bodyPost_ret (v := .tuple #[.agg #[.bool (ngB x9), .slice A9 n9 c9, .int .i64 (k9 : Int)], .int .i64 0]) (by simp [results, Tryz.results120, go_sem, r0, r1, r2]) rfl ⟨x9, k9, A9, n9, c9, i9, 0, rfl, SY.got EF (by simp), EF.out.st, EF.out.kp, by rw [HO.out]; exact ⟨rfl, rfl, rfl, rfl⟩⟩
theorem pbeh_minus {w : World} {g B n c i d : Nat} {A : Option Addr} {L : List Tk4} (hs : StP w g A n c i d) (hr : RdK w B A n c L) (hm : MaxLen w) (hp : B ≤ g) (hn : n ≤ 200) (hd : d ≤ 64) {G : Nat → Nat → Int → Nat → Prop} (hL : Siz (L.map tok) G) (HC : FacP L i) {T : ByteArray} (hT : bs9 T = [45]) : Calls Tryz.prog 120 #[.pointer (some ⟨g, 0, none⟩), .string T] w (RetX w g A n c d (Rs.neg true (FAC (L.map tok) d i))) := by
 have hlen := hr.len
 have hgw := hs.lt
 have E := Lib.hid (sy_start hs hr hm hp)
 have l40 : (T.toList == [40]) = false := lit_not (l := [40]) (by rw [hT]; decide)
 have l43 : (T.toList == [43]) = false := lit_not (l := [43]) (by rw [hT]; decide)
 have HLEN := Lib.hid hlen
 have HL := Lib.hid hL
 clear hs hr hm hT hlen hL
 go_enter Tryz.func120, Tryz.ntmps120
 go_wp2_with fail
 generalize hW : World.alloc w _ = W1 at E ⊢
 clear hW
 refine (HC E.out.st E.out.rd E.out.mx hp hn hd).mono ?_; rintro e w9 ⟨x9, k9, A9, n9, c9, i9, e9, rfl, hnum9, hst9, hkp9, hout⟩
 replace E := Lib.hid (SY.push (SY.call E.out hkp9 hst9) hnum9)
 clear hnum9 hst9 hkp9
 cases hF : FAC (L.map tok) d i with
 | inl r =>
  obtain ⟨z, b⟩ := r
  rw [hF] at hout
  obtain ⟨hz, rfl, rfl, hx, hk⟩ := hout
  have HX := Lib.hid hx
  have HK := Lib.hid hk
  have dz : ((e9 : Int) != 0) = true := by rw [bne_iff_ne]; omega
  have HO : Hid (Rs.neg true (FAC (L.map tok) d i) = .inl (e9, i9)) := by show _ = _; rw [hF]; rfl
  have EL := Lib.hid (SY.lay (g1 := w9.heap.size) (x0 := .bool (ngB x9)) (x1 := .slice A9 n9 c9) (x2 := .int .i64 (k9 : Int)) (t := 26) E.out rfl)
  clear hF hx hk E
  obtain ⟨q0, q1, q2, qf0, qf1, qf2, qlt⟩ := SY.ad x9 A9 n9 c9 k9 (g1 := w9.heap.size) EL (by simp)
  obtain ⟨r0, r1, r2, rf0, rf1, rf2, rlt⟩ := SY.az (g1 := w.heap.size) EL (by simp)
  go_wp2_with fail
  clear q0 q1 q2 qf0 qf1 qf2 qlt
  clear r0 r1 r2 rf0 rf1 rf2 rlt
  have EF := Lib.hid (SY.pz EL.out (g1 := w.heap.size) (by simp) (.bool (ngB x9)) (.slice A9 n9 c9) (.int .i64 (k9 : Int)))
  obtain ⟨r0, r1, r2, _, _, _, _⟩ := SY.ad x9 A9 n9 c9 k9 (g1 := w.heap.size) EF (by simp)
  exact bodyPost_ret (v := .tuple #[.agg #[.bool (ngB x9), .slice A9 n9 c9, .int .i64 (k9 : Int)], .int .i64 (e9 : Int)]) (by simp [results, Tryz.results120, go_sem, r0, r1, r2]) rfl ⟨x9, k9, A9, n9, c9, i9, e9, rfl, SY.got EF (by simp), EF.out.st, EF.out.kp, by rw [HO.out]; exact ⟨hz, rfl, rfl, HX.out, HK.out⟩⟩
 | inr r =>
  obtain ⟨j, s, b⟩ := r
  rw [hF] at hout
  obtain ⟨rfl, rfl, rfl, rfl⟩ := hout
  have hfit := HL.out.fits (HL.out.fac hF)
  have hn9 : n9 ≤ 1000 := by have := (SY.got E (A1 := A9) (n1 := n9) (c1 := c9) (x := x9.natAbs) (by simp)).len; omega
  have hk9 : k9 ≤ 4010 := hfit.2
  have HO : Hid (Rs.neg true (FAC (L.map tok) d i) = .inr (-x9, k9, i9)) := by show _ = _; rw [hF]; rfl
  clear hF hfit
  obtain ⟨y8, hy8⟩ : ∃ y, -x9 = y := ⟨_, rfl⟩
  rw [hy8] at HO
  have HY := Lib.hid hy8
  clear hy8
  have EL := Lib.hid (SY.lay (g1 := w9.heap.size) (x0 := .bool (ngB x9)) (x1 := .slice A9 n9 c9) (x2 := .int .i64 (k9 : Int)) (t := 26) E.out rfl)
  obtain ⟨q0, q1, q2, qf0, qf1, qf2, qlt⟩ := SY.ad x9 A9 n9 c9 k9 (g1 := w9.heap.size) EL (by simp)
  go_wp2_with fail
  clear q0 q1 q2 qf0 qf1 qf2 qlt
  clear E
  have E := EL
  clear EL
  obtain ⟨g9, hg9⟩ : ∃ g, w9.heap.size = g := ⟨_, rfl⟩
  rw [hg9] at E ⊢
  clear hg9
  generalize hV : World.alloc w9 _ = V9 at E ⊢
  clear hV
  refine (neg_is5 (i := x9) (s := k9) (x := y8) (SY.got E (A1 := A9) (n1 := n9) (c1 := c9) (by simp)) (by omega) (by omega) HY.out).mono ?_; rintro e w10 ⟨A8, n8, c8, rfl, hnum8, hb8⟩
  replace E := Lib.hid (SY.push (SY.step E.out hb8) hnum8)
  clear hnum8 hb8
  obtain ⟨r0, r1, r2, rf0, rf1, rf2, rlt⟩ := SY.az (g1 := w.heap.size) E (by simp)
  go_wp2_with fail
  clear r0 r1 r2 rf0 rf1 rf2 rlt
  have EF := Lib.hid (SY.pz E.out (g1 := w.heap.size) (by simp) (.bool (ngB y8)) (.slice A8 n8 c8) (.int .i64 (k9 : Int)))
  obtain ⟨r0, r1, r2, _, _, _, _⟩ := SY.ad y8 A8 n8 c8 k9 (g1 := w.heap.size) EF (by simp)
  exact bodyPost_ret (v := .tuple #[.agg #[.bool (ngB y8), .slice A8 n8 c8, .int .i64 (k9 : Int)], .int .i64 0]) (by simp [results, Tryz.results120, go_sem, r0, r1, r2]) rfl ⟨y8, k9, A8, n8, c8, i9, 0, rfl, SY.got EF (by simp), EF.out.st, EF.out.kp, by rw [HO.out]; exact ⟨rfl, rfl, rfl, rfl⟩⟩
theorem pfac_end {w : World} {g B n c i d : Nat} {A : Option Addr} {L : List Tk4} (hs : StP w g A n c i d) (hr : RdK w B A n c L) (hm : MaxLen w) (hp : B ≤ g) (hn : n ≤ 200) (hd : d ≤ 64) (hi : i = n) : Calls Tryz.prog 80 #[.pointer (some ⟨g, 0, none⟩)] w (RetX w g A n c d (FAC (L.map tok) d i)) := by
 have hlen := hr.len
 have hgw := hs.lt
 have E := Lib.hid (sy_start hs hr hm hp)
 have HO : Hid (FAC (L.map tok) d i = .inl (2, i)) := FAC_none (by rw [List.length_map]; omega)
 clear hs hr hm hlen
 go_enter Tryz.func80, Tryz.ntmps80
 go_wp2_with fail
 generalize hW : World.alloc w _ = W1 at E ⊢
 clear hW
 refine (pnext_end E.out.st hi).mono ?_; rintro e w10 ⟨rfl, hb⟩
 replace E := Lib.hid (SY.step E.out hb)
 clear hb
 have EL := Lib.hid (SY.word (g1 := w10.heap.size) E.out 0 ⟨#[]⟩ 0 0 (t := 39) rfl)
 obtain ⟨r0, r1, r2, rf0, rf1, rf2, rlt⟩ := SY.az (g1 := w.heap.size) EL (by simp)
 go_wp2_with fail
 clear r0 r1 r2 rf0 rf1 rf2 rlt
 have EF := Lib.hid (SY.pz EL.out (g1 := w.heap.size) (by simp) (.bool false) (.slice none 0 0) (.int .i64 0))
 obtain ⟨r0, r1, r2, _, _, _, _⟩ := SY.az (g1 := w.heap.size) EF (by simp)
 exact bodyPost_ret (v := .tuple #[.agg #[.bool false, .slice none 0 0, .int .i64 0], .int .i64 2]) (by simp [results, Tryz.results80, go_sem, r0, r1, r2]) rfl ⟨0, 0, none, 0, 0, i, 2, rfl, num_zero _ _, EF.out.st, EF.out.kp, by rw [HO.out]; exact ⟨by omega, rfl, rfl, rfl, rfl⟩⟩
theorem pfac_not {w : World} {g B n c i d : Nat} {A : Option Addr} {L : List Tk4} (hs : StP w g A n c i d) (hr : RdK w B A n c L) (hm : MaxLen w) (hp : B ≤ g) (hn : n ≤ 200) (hd : d ≤ 64) {t : Tk4} (ht : L[i]? = some t) (hst : sta (tok t) = false) : Calls Tryz.prog 80 #[.pointer (some ⟨g, 0, none⟩)] w (RetX w g A n c d (FAC (L.map tok) d i)) := by
 have hlen := hr.len
 have hgw := hs.lt
 have E := Lib.hid (sy_start hs hr hm hp)
 obtain ⟨k, T, l, m⟩ := t
 have hk : k ≠ 4 := fun e => by have h : sta (k, T) = false := hst; rw [e] at h; unfold sta at h; simp at h
 have HO : Hid (FAC (L.map tok) d i = .inl (3, i)) := FAC_not (t := (k, T)) (by rw [List.getElem?_map, ht]; rfl) hk hst
 have HST : Hid (sta (k, T) = false) := hst
 clear hst hk
 have HT := Lib.hid ht
 clear hs hr hm hlen
 go_enter Tryz.func80, Tryz.ntmps80
 go_wp2_with fail
 generalize hW : World.alloc w _ = W1 at E ⊢
 clear hW
 refine (pnext_some E.out.st E.out.rd (by have := E.out.pl; have := E.out.st.lt; omega) (by omega) ht).mono ?_; rintro e w10 ⟨rfl, hb⟩
 replace E := Lib.hid (SY.step E.out hb)
 clear hb ht
 unfold tk4
 go_wp2_with fail
 replace E := Lib.hid (SY.word (g1 := w10.heap.size) E.out k T l m (t := 39) rfl)
 obtain ⟨g4, hg4⟩ : ∃ g, w10.heap.size = g := ⟨_, rfl⟩
 rw [hg4] at E ⊢
 clear hg4
 generalize hV : World.alloc w10 _ = V10 at E ⊢
 clear hV
 refine (pstarts HST.out l m).mono ?_; rintro e w11 ⟨rfl, hb⟩
 replace E := Lib.hid (SY.step E.out hb)
 clear hb
 obtain ⟨r0, r1, r2, rf0, rf1, rf2, rlt⟩ := SY.az (g1 := w.heap.size) E (by simp)
 go_wp2_with fail
 clear r0 r1 r2 rf0 rf1 rf2 rlt
 have EF := Lib.hid (SY.pz E.out (g1 := w.heap.size) (by simp) (.bool false) (.slice none 0 0) (.int .i64 0))
 obtain ⟨r0, r1, r2, _, _, _, _⟩ := SY.az (g1 := w.heap.size) EF (by simp)
 exact bodyPost_ret (v := .tuple #[.agg #[.bool false, .slice none 0 0, .int .i64 0], .int .i64 3]) (by simp [results, Tryz.results80, go_sem, r0, r1, r2]) rfl ⟨0, 0, none, 0, 0, i, 3, rfl, num_zero _ _, EF.out.st, EF.out.kp, by rw [HO.out]; exact ⟨by omega, rfl, rfl, rfl, rfl⟩⟩
theorem pfac_num {w : World} {g B n c i d : Nat} {A : Option Addr} {L : List Tk4} (hs : StP w g A n c i d) (hr : RdK w B A n c L) (hm : MaxLen w) (hp : B ≤ g) (hn : n ≤ 200) (hd : d ≤ 64) {t : Tk4} (ht : L[i]? = some t) (hk : t.1 = 4) (hT : t.2.1.size ≤ 1000) : Calls Tryz.prog 80 #[.pointer (some ⟨g, 0, none⟩)] w (RetX w g A n c d (FAC (L.map tok) d i)) := by
 have hlen := hr.len
 have hgw := hs.lt
 have E := Lib.hid (sy_start hs hr hm hp)
 obtain ⟨k, T, l, m⟩ := t
 have HO : Hid (FAC (L.map tok) d i = numR T i) := FAC_num (t := (k, T)) (by rw [List.getElem?_map, ht]; rfl) hk
 have dk : (k == 4) = true := by rw [beq_iff_eq]; exact hk
 have HST : Hid (sta (k, T) = true) := by show sta (k, T) = true; unfold sta; rw [decide_eq_true (show (k, T).1 = 4 from hk)]; rfl
 have hTs : T.size ≤ 1000 := Nat.le_trans hT (by omega)
 have hi : i ≤ 1000 := by have := (List.getElem?_eq_some_iff.1 ht).1; omega
 clear hk hT
 have HT := Lib.hid ht
 clear hs hr hm hlen
 go_enter Tryz.func80, Tryz.ntmps80
 go_wp2_with fail
 generalize hW : World.alloc w _ = W1 at E ⊢
 clear hW
 refine (pnext_some E.out.st E.out.rd (by have := E.out.pl; have := E.out.st.lt; omega) (by omega) ht).mono ?_; rintro e w10 ⟨rfl, hb⟩
 replace E := Lib.hid (SY.step E.out hb)
 clear hb ht
 unfold tk4
 go_wp2_with fail
 replace E := Lib.hid (SY.word (g1 := w10.heap.size) E.out k T l m (t := 39) rfl)
 obtain ⟨g4, hg4⟩ : ∃ g, w10.heap.size = g := ⟨_, rfl⟩
 rw [hg4] at E ⊢
 clear hg4
 generalize hV : World.alloc w10 _ = V10 at E ⊢
 clear hV
 refine (pstarts HST.out l m).mono ?_; rintro e w11 ⟨rfl, hb⟩
 replace E := Lib.hid (SY.step E.out hb)
 clear hb
 obtain ⟨t0, t1, t2, t3, tf0, tf1, tf2, tf3, tlt⟩ := SY.wat (k := k) (T := T) (p := l) (q := m) (g1 := g4) E (by simp)
 go_wp2_with fail
 clear t0 t1 t2 t3 tf0 tf1 tf2 tf3 tlt
 refine (pnumber E.out.st E.out.rd E.out.mx hp hi T hTs).mono ?_; rintro e w9 ⟨x9, k9, A9, n9, c9, i9, e9, rfl, hnum9, hst9, hkp9, hout⟩
 replace E := Lib.hid (SY.push (SY.call E.out hkp9 hst9) hnum9)
 clear hnum9 hst9 hkp9
 rw [← HO.out] at hout
 have HO2 := Lib.hid hout
 clear hout
 obtain ⟨r0, r1, r2, rf0, rf1, rf2, rlt⟩ := SY.az (g1 := w.heap.size) E (by simp)
 go_wp2_with fail
 clear r0 r1 r2 rf0 rf1 rf2 rlt
 have EF := Lib.hid (SY.pz E.out (g1 := w.heap.size) (by simp) (.bool (ngB x9)) (.slice A9 n9 c9) (.int .i64 (k9 : Int)))
 obtain ⟨r0, r1, r2, _, _, _, _⟩ := SY.ad x9 A9 n9 c9 k9 (g1 := w.heap.size) EF (by simp)
 exact bodyPost_ret (v := .tuple #[.agg #[.bool (ngB x9), .slice A9 n9 c9, .int .i64 (k9 : Int)], .int .i64 (e9 : Int)]) (by simp [results, Tryz.results80, go_sem, r0, r1, r2]) rfl ⟨x9, k9, A9, n9, c9, i9, e9, rfl, SY.got EF (by simp), EF.out.st, EF.out.kp, HO2.out⟩
theorem pfac_deep {w : World} {g B n c i d : Nat} {A : Option Addr} {L : List Tk4} (hs : StP w g A n c i d) (hr : RdK w B A n c L) (hm : MaxLen w) (hp : B ≤ g) (hn : n ≤ 200) (hd : d ≤ 64) {t : Tk4} (ht : L[i]? = some t) (hk : t.1 ≠ 4) (hst : sta (tok t) = true) (h64 : d = 64) : Calls Tryz.prog 80 #[.pointer (some ⟨g, 0, none⟩)] w (RetX w g A n c d (FAC (L.map tok) d i)) := by
 have hlen := hr.len
 have hgw := hs.lt
 have E := Lib.hid (sy_start hs hr hm hp)
 obtain ⟨k, T, l, m⟩ := t
 have HO : Hid (FAC (L.map tok) d i = .inl (6, i)) := FAC_deep (t := (k, T)) (by rw [List.getElem?_map, ht]; rfl) hk hst (by omega)
 have dk : (k == 4) = false := by rw [beq_eq_false_iff_ne]; exact hk
 have d64 : ((d : Int) == 64) = true := by rw [beq_iff_eq]; omega
 have HST : Hid (sta (k, T) = true) := hst
 clear hk hst h64
 have HT := Lib.hid ht
 clear hs hr hm hlen
 go_enter Tryz.func80, Tryz.ntmps80
 go_wp2_with fail
 generalize hW : World.alloc w _ = W1 at E ⊢
 clear hW
 refine (pnext_some E.out.st E.out.rd (by have := E.out.pl; have := E.out.st.lt; omega) (by omega) ht).mono ?_; rintro e w10 ⟨rfl, hb⟩
 replace E := Lib.hid (SY.step E.out hb)
 clear hb ht
 unfold tk4
 go_wp2_with fail
 replace E := Lib.hid (SY.word (g1 := w10.heap.size) E.out k T l m (t := 39) rfl)
 obtain ⟨g4, hg4⟩ : ∃ g, w10.heap.size = g := ⟨_, rfl⟩
 rw [hg4] at E ⊢
 clear hg4
 generalize hV : World.alloc w10 _ = V10 at E ⊢
 clear hV
 refine (pstarts HST.out l m).mono ?_; rintro e w11 ⟨rfl, hb⟩
 replace E := Lib.hid (SY.step E.out hb)
 clear hb
 obtain ⟨t0, t1, t2, t3, tf0, tf1, tf2, tf3, tlt⟩ := SY.wat (k := k) (T := T) (p := l) (q := m) (g1 := g4) E (by simp)
 obtain ⟨p0, p1, p2, pf0, pf1, pf2, plt⟩ := SY.facts E
 obtain ⟨r0, r1, r2, rf0, rf1, rf2, rlt⟩ := SY.az (g1 := w.heap.size) E (by simp)
 go_wp2_with fail
 clear t0 t1 t2 t3 tf0 tf1 tf2 tf3 tlt
 clear p0 p1 p2 pf0 pf1 pf2 plt
 clear r0 r1 r2 rf0 rf1 rf2 rlt
 have EF := Lib.hid (SY.pz E.out (g1 := w.heap.size) (by simp) (.bool false) (.slice none 0 0) (.int .i64 0))
 obtain ⟨r0, r1, r2, _, _, _, _⟩ := SY.az (g1 := w.heap.size) EF (by simp)
 exact bodyPost_ret (v := .tuple #[.agg #[.bool false, .slice none 0 0, .int .i64 0], .int .i64 6]) (by simp [results, Tryz.results80, go_sem, r0, r1, r2]) rfl ⟨0, 0, none, 0, 0, i, 6, rfl, num_zero _ _, EF.out.st, EF.out.kp, by rw [HO.out]; exact ⟨by omega, rfl, rfl, rfl, rfl⟩⟩
theorem pfac_go {w : World} {g B n c i d : Nat} {A : Option Addr} {L : List Tk4} (hs : StP w g A n c i d) (hr : RdK w B A n c L) (hm : MaxLen w) (hp : B ≤ g) (hn : n ≤ 200) (hd : d ≤ 64) {t : Tk4} (ht : L[i]? = some t) (hk : t.1 ≠ 4) (hst : sta (tok t) = true) (h64 : d < 64) {R : Rs} (hR : FAC (L.map tok) d i = R) (HC : ∀ w' : World, StP w' g A n c (i + 1) (d + 1) → RdK w' B A n c L → MaxLen w' → Calls Tryz.prog 120 #[.pointer (some ⟨g, 0, none⟩), .string t.2.1] w' (RetX w' g A n c (d + 1) R)) : Calls Tryz.prog 80 #[.pointer (some ⟨g, 0, none⟩)] w (RetX w g A n c d (FAC (L.map tok) d i)) := by
 have hlen := hr.len
 have hgw := hs.lt
 have E := Lib.hid (sy_start hs hr hm hp)
 obtain ⟨k, T, l, m⟩ := t
 have HO := Lib.hid hR
 have dk : (k == 4) = false := by rw [beq_eq_false_iff_ne]; exact hk
 have d64 : ((d : Int) == 64) = false := by rw [beq_eq_false_iff_ne]; omega
 have HST : Hid (sta (k, T) = true) := hst
 have hi : i ≤ 1000 := by have := (List.getElem?_eq_some_iff.1 ht).1; omega
 obtain ⟨i1, hi1⟩ : ∃ i1, i + 1 = i1 := ⟨_, rfl⟩
 obtain ⟨d1, hd1⟩ : ∃ d1, d + 1 = d1 := ⟨_, rfl⟩
 have ed : (d : Int) + 1 = (d1 : Int) := by omega
 have ed2 : (d1 : Int) - 1 = (d : Int) := by omega
 have hd11 : d1 ≤ 64 := by omega
 rw [hi1, hd1] at HC
 have HI := Lib.hid hi1
 clear hk hst hR hi1 hd1
 have HT := Lib.hid ht
 clear hs hr hm hlen
 go_enter Tryz.func80, Tryz.ntmps80
 go_wp2_with fail
 generalize hW : World.alloc w _ = W1 at E ⊢
 clear hW
 refine (pnext_some E.out.st E.out.rd (by have := E.out.pl; have := E.out.st.lt; omega) (by omega) ht).mono ?_; rintro e w10 ⟨rfl, hb⟩
 replace E := Lib.hid (SY.step E.out hb)
 clear hb ht
 unfold tk4
 go_wp2_with fail
 replace E := Lib.hid (SY.word (g1 := w10.heap.size) E.out k T l m (t := 39) rfl)
 obtain ⟨g4, hg4⟩ : ∃ g, w10.heap.size = g := ⟨_, rfl⟩
 rw [hg4] at E ⊢
 clear hg4
 generalize hV : World.alloc w10 _ = V10 at E ⊢
 clear hV
 refine (pstarts HST.out l m).mono ?_; rintro e w11 ⟨rfl, hb⟩
 replace E := Lib.hid (SY.step E.out hb)
 clear hb
 obtain ⟨t0, t1, t2, t3, tf0, tf1, tf2, tf3, tlt⟩ := SY.wat (k := k) (T := T) (p := l) (q := m) (g1 := g4) E (by simp)
 obtain ⟨p0, p1, p2, pf0, pf1, pf2, plt⟩ := SY.facts E
 go_wp2_with fail
 clear t0 t1 t2 t3 tf0 tf1 tf2 tf3 tlt
 clear p0 p1 p2 pf0 pf1 pf2 plt
 refine (ppass E.out.st (by omega) i1 HI.out).mono ?_; rintro e w12 ⟨rfl, rfl⟩
 replace E := Lib.hid (SY.set1 E.out i1)
 obtain ⟨t0, t1, t2, t3, tf0, tf1, tf2, tf3, tlt⟩ := SY.wat (k := k) (T := T) (p := l) (q := m) (g1 := g4) E (by simp)
 obtain ⟨p0, p1, p2, pf0, pf1, pf2, plt⟩ := SY.facts E
 have ng : g ≠ g4 := by
  have h0 := (SY.facts E).c0
  have h1 := (SY.wat (k := k) (T := T) (p := l) (q := m) (g1 := g4) E (by simp)).c0
  rintro rfl
  rw [h0] at h1; cases h1
 have ng2 : g4 ≠ g := fun e => ng e.symm
 generalize hV : World.setCell w11 _ _ = V11 at E p0 p1 p2 pf0 pf1 pf2 plt t0 t1 t2 t3 tf0 tf1 tf2 tf3 tlt ⊢
 clear hV
 go_wp2_with fail
 clear t0 t1 t2 t3 tf0 tf1 tf2 tf3 tlt
 clear p0 p1 p2 pf0 pf1 pf2 plt
 replace E := Lib.hid (SY.set2 E.out d1)
 generalize hV : World.setCell V11 _ _ = V12 at E ⊢
 clear hV
 refine (HC _ E.out.st E.out.rd E.out.mx).mono ?_; rintro e w9 ⟨x9, k9, A9, n9, c9, i9, e9, rfl, hnum9, hst9, hkp9, hout⟩
 replace E := Lib.hid (SY.push (SY.call E.out hkp9 hst9) hnum9)
 clear hnum9 hst9 hkp9
 have HO2 := Lib.hid hout
 clear hout
 have EL := Lib.hid (SY.lay (g1 := w9.heap.size) (x0 := .bool (ngB x9)) (x1 := .slice A9 n9 c9) (x2 := .int .i64 (k9 : Int)) (t := 26) E.out rfl)
 have n1 : g ≠ w9.heap.size := by have := E.out.st.lt; omega
 have n2 : w9.heap.size ≠ g := fun e => n1 e.symm
 have n3 : g ≠ w.heap.size := by omega
 have n4 : w.heap.size ≠ g := by omega
 clear E
 obtain ⟨p0, p1, p2, pf0, pf1, pf2, plt⟩ := SY.facts EL
 obtain ⟨q0, q1, q2, qf0, qf1, qf2, qlt⟩ := SY.ad x9 A9 n9 c9 k9 (g1 := w9.heap.size) EL (by simp)
 obtain ⟨r0, r1, r2, rf0, rf1, rf2, rlt⟩ := SY.az (g1 := w.heap.size) EL (by simp)
 go_wp2_with fail
 clear p0 p1 p2 pf0 pf1 pf2 plt
 clear q0 q1 q2 qf0 qf1 qf2 qlt
 clear r0 r1 r2 rf0 rf1 rf2 rlt
 have E := Lib.hid (SY.set2 EL.out d)
 have EF := Lib.hid (SY.pz E.out (g1 := w.heap.size) (by simp) (.bool (ngB x9)) (.slice A9 n9 c9) (.int .i64 (k9 : Int)))
 obtain ⟨r0, r1, r2, _, _, _, _⟩ := SY.ad x9 A9 n9 c9 k9 (g1 := w.heap.size) EF (by simp)
 exact bodyPost_ret (v := .tuple #[.agg #[.bool (ngB x9), .slice A9 n9 c9, .int .i64 (k9 : Int)], .int .i64 (e9 : Int)]) (by simp [results, Tryz.results80, go_sem, r0, r1, r2]) rfl ⟨x9, k9, A9, n9, c9, i9, e9, rfl, SY.got EF (by simp), EF.out.st, EF.out.kp, by rw [HO.out]; exact HO2.out⟩
theorem pfactor {L : List Tk4} {i : Nat} {G : Nat → Nat → Int → Nat → Prop} (hL : Siz (L.map tok) G) (hi : i ≤ L.length) (HS : i < L.length → SumP L (i + 1)) (HF : i < L.length → FacP L (i + 1)) : FacP L i := by
 intro w g B n c d A hs hr hm hp hn hd
 rcases Nat.lt_or_ge i L.length with h | h
 ·obtain ⟨t, ht⟩ : ∃ t, L[i]? = some t := ⟨_, List.getElem?_eq_getElem h⟩
  have hm1 : tok t ∈ L.map tok := List.mem_map_of_mem (List.mem_of_getElem? ht)
  have hg : (L.map tok)[i]? = some (tok t) := by rw [List.getElem?_map, ht]; rfl
  cases hst : sta (tok t) with
  | false => exact pfac_not hs hr hm hp hn hd ht hst
  | true =>
   by_cases hk : t.1 = 4
   ·exact pfac_num hs hr hm hp hn hd ht hk (hL.txt _ hm1)
   ·rcases Nat.lt_or_ge d 64 with h64 | h64
    ·have hk10 : t.1 = 10 := sta_ten hst hk
     cases ho : isg (tok t) 40 with
     | true =>
      have hT : bs9 t.2.1 = [40] := of_decide_eq_true (isg_txt (k := t.1) (T := t.2.1) ho hk10)
      exact pfac_go hs hr hm hp hn hd ht hk hst h64 (FAC_open hg hk hst h64 ho) fun w' hs' hr' hm' => pbeh_open hs' hr' hm' hp hn (by omega) (fun w2 hs2 hr2 hm2 => pshut hs2 hr2 hm2 hp hn (by omega) (HS h)) hT
     | false =>
      cases hb : isg (tok t) 45 with
      | true =>
       have hT : bs9 t.2.1 = [45] := of_decide_eq_true (isg_txt (k := t.1) (T := t.2.1) hb hk10)
       exact pfac_go hs hr hm hp hn hd ht hk hst h64 ((FAC_sign hg hk hst h64 ho).trans (by rw [hb])) fun w' hs' hr' hm' => pbeh_minus hs' hr' hm' hp hn (by omega) hL (HF h) hT
      | false =>
       have h43 : isg (tok t) 43 = true := by
        unfold sta at hst
        rw [hb, ho, decide_eq_false (show ¬ (tok t).1 = 4 from hk)] at hst
        simpa using hst
       have hT : bs9 t.2.1 = [43] := of_decide_eq_true (isg_txt (k := t.1) (T := t.2.1) h43 hk10)
       exact pfac_go hs hr hm hp hn hd ht hk hst h64 ((FAC_sign hg hk hst h64 ho).trans (by rw [hb])) fun w' hs' hr' hm' => pbeh_plus hs' hr' hm' hp hn (by omega) hL (HF h) hT
    ·exact pfac_deep hs hr hm hp hn hd ht hk hst (by omega)
 ·exact pfac_end hs hr hm hp hn hd (by have := hr.len; omega)
structure Chn (L : List Tok) (G : Nat → Nat → Int → Nat → Prop) (i : Nat) (P : Nat → Rs) (F : Int → Nat → Nat → Rs) (x y : Nat) : Prop where
 sx : x = 43 ∨ x = 45 ∨ x = 42 ∨ x = 47
 sy : y = 43 ∨ y = 45 ∨ y = 42 ∨ y = 47
 fin : ∀ {v k a}, isAt L a x = false → isAt L a y = false → F v k a = .inr (v, k, a)
 err : ∀ {v k a e}, isAt L a x = true ∨ isAt L a y = true → P (a + 1) = .inl e → F v k a = .inl e
 go : ∀ {v k a j t b z}, z = x ∨ z = y → isAt L a z = true → P (a + 1) = .inr (j, t, b) → (jnd z v k j t).2.2 = 0 → F v k a = F (jnd z v k j t).1 (jnd z v k j t).2.1 b
 bad : ∀ {v k a j t b z}, z = x ∨ z = y → isAt L a z = true → P (a + 1) = .inr (j, t, b) → 0 < (jnd z v k j t).2.2 → F v k a = .inl ((jnd z v k j t).2.2, a) ∧ (jnd z v k j t).1 = 0 ∧ (jnd z v k j t).2.1 = 0
 grt : ∀ {v k a j t b z}, z = x ∨ z = y → G i a v k → P (a + 1) = .inr (j, t, b) → (jnd z v k j t).2.2 = 0 → G i b (jnd z v k j t).1 (jnd z v k j t).2.1
 rng : ∀ {a b i k}, G a b i k → a < b ∧ b ≤ L.length
 fits : ∀ {a b i k}, G a b i k → (dg i.natAbs).length ≤ 900 ∧ k ≤ 4010
 pgrt : ∀ {a j t b}, P a = .inr (j, t, b) → G a b j t
 len : ∀ {v k a j t b}, G i a v k → P (a + 1) = .inr (j, t, b) → j ≠ 0 → (dg (quoQ v k j t).natAbs).length ≤ 1000
def ChI (G : Nat → Nat → Int → Nat → Prop) (i : Nat) (F : Int → Nat → Nat → Rs) (S : Rs) (v : Int) (k a e : Nat) : Prop :=
 (e = 0 ∧ S = F v k a ∧ G i a v k) ∨ (0 < e ∧ OutX v k a e S)
def msp (g n : Nat) (iv : Value) (w : World) : Nat := if intOf iv = 0 then n + 1 - (match w.cell? ⟨g, 1, none⟩ with | some v => (intOf v).toNat | none => 0) else 0
theorem msp_is {w : World} {g n c i d : Nat} {A : Option Addr} (h : StP w g A n c i d) (e : Nat) : msp g n (.int .i64 (e : Int)) w = if e = 0 then n + 1 - i else 0 := by
 have p := h.bx
 unfold msp
 rw [p.c1]
 show (if (e : Int) = 0 then n + 1 - ((i : Int)).toNat else 0) = _
 rw [Int.toNat_natCast]
 by_cases he : e = 0
 ·subst he; simp
 ·rw [if_neg he, if_neg (by omega)]
theorem pchain {w : World} {fn : Nat} {P : Nat → Rs} {F : Int → Nat → Nat → Rs} {G : Nat → Nat → Int → Nat → Prop} {S : Rs} {x y q : Nat} {s1 s2 : ByteArray} {g B n c i d : Nat} {A : Option Addr} {L : List Tk4} (hs : StP w g A n c i d) (hr : RdK w B A n c L) (hm : MaxLen w) (hp : B ≤ g) (hn : n ≤ 200) (hd : d ≤ 64) (hent : ∀ (args : Array Value) (W : World), (callFunc fn args).run Tryz.prog W = .ok (.enter fn args) W) (hi : i ≤ n) (CN : Chn (L.map tok) G i P F x y) (h1 : bs9 s1 = [x]) (h2 : bs9 s2 = [y]) (hsg : Sgn w q 2 2 [s1, s2]) (hS : (∀ e, P i = .inl e → S = .inl e) ∧ ∀ v k b, P i = .inr (v, k, b) → S = F v k b)
  (HP : ∀ a, i ≤ a → a ≤ n → ∀ w' : World, StP w' g A n c a d → RdK w' B A n c L → MaxLen w' → Calls Tryz.prog fn #[.pointer (some ⟨g, 0, none⟩)] w' (RetX w' g A n c d (P a))) :
  Calls Tryz.prog 46 #[.pointer (some ⟨g, 0, none⟩), .func (.func fn) #[.pointer (some ⟨g, 0, none⟩)] #[], .slice (some ⟨q, 0, none⟩) 2 2] w (RetX w g A n c d S) := by
 have hlen := hr.len
 have hgw := hs.lt
 have E := Lib.hid (sy_start hs hr hm hp)
 have hqg : q ≠ g := by
  have h0 := hsg.row 0 s1 rfl
  have h3 := hs.bx.c0
  rintro rfl
  rw [h0] at h3; cases h3
 have SG := Lib.hid hsg
 have HLEN := Lib.hid hlen
 have HLL : Hid ((L.map tok).length ≤ 200) := by show _ ≤ _; rw [List.length_map]; omega
 have HCN := Lib.hid CN
 have HSS := Lib.hid hS
 have H1 := Lib.hid h1
 have H2 := Lib.hid h2
 have HPP := Lib.hid HP
 clear hs hr hm hlen hsg CN hS h1 h2 HP
 go_enter Tryz.func46, Tryz.ntmps46
 go_wp2_with fail
 generalize hW : World.alloc w _ = W1 at E ⊢
 clear hW
 refine (HPP.out i (Nat.le_refl _) hi _ E.out.st E.out.rd E.out.mx).mono ?_; rintro e w9 ⟨x9, k9, A9, n9, c9, i9, e9, rfl, hnum9, hst9, hkp9, hout⟩
 replace E := Lib.hid (SY.push (SY.call E.out hkp9 hst9) hnum9)
 clear hnum9 hst9 hkp9
 have I0 : Hid (ChI G i F S x9 k9 i9 e9) := by
  show ChI _ _ _ _ _ _ _ _
  cases hP : P i with
  | inl r =>
   obtain ⟨z, b⟩ := r
   rw [hP] at hout
   exact .inr ⟨by have := hout.1; have := hout.2.1; omega, by rw [HSS.out.1 _ hP]; exact hout⟩
  | inr r =>
   obtain ⟨j, s, b⟩ := r
   rw [hP] at hout
   obtain ⟨rfl, rfl, rfl, rfl⟩ := hout
   exact .inl ⟨rfl, HSS.out.2 _ _ _ hP, HCN.out.pgrt hP⟩
 clear hout
 have n5 : w9.heap.size ≠ w.heap.size := by have := (SY.az (g1 := w.heap.size) E (by simp)).lt; omega
 go_wp2_with fail
 replace E := Lib.hid (SY.lay (g1 := w9.heap.size) (x0 := .bool (ngB x9)) (x1 := .slice A9 n9 c9) (x2 := .int .i64 (k9 : Int)) (t := 26) E.out rfl)
 obtain ⟨g8, hg8⟩ : ∃ g, w9.heap.size = g := ⟨_, rfl⟩
 rw [hg8] at E n5 ⊢
 clear hg8
 generalize hV : World.alloc w9 _ = V9 at E ⊢
 clear hV
 have n6 : w.heap.size ≠ g8 := fun e => n5 e.symm
 go_loopw [9] (fun iv wr => ∃ (e : Nat) (v : Int) (k : Nat) (A1 : Option Addr) (n1 c1 a : Nat), iv = .int .i64 (e : Int) ∧ SY w wr g B A n c L a d [(A1, n1, c1, v.natAbs)] [(g8, .bool (ngB v), .slice A1 n1 c1, .int .i64 (k : Int)), (w.heap.size, .bool false, .slice none 0 0, .int .i64 0)] [] ∧ ChI G i F S v k a e) (fun iv wr => msp g n iv wr)
 case atStart => exact ⟨e9, x9, k9, A9, n9, c9, i9, rfl, E.out, I0.out⟩
 case round =>
  obtain ⟨e, v, k, A1, n1, c1, a, rfl, hE, hI⟩ := hrel
  replace E := Lib.hid hE
  have S0 := Lib.hid hE.st
  have I := Lib.hid hI
  clear hE hI I0
  rcases Nat.eq_zero_or_pos e with h0 | h0
  ·subst h0
   have hI2 : S = F v k a ∧ G i a v k := by
    rcases I.out with ⟨_, q1, q2⟩ | ⟨q1, _⟩
    ·exact ⟨q1, q2⟩
    ·omega
   have HF := Lib.hid hI2.1
   have HG := Lib.hid hI2.2
   have ha : i ≤ a ∧ a ≤ n := by have h := HCN.out.rng hI2.2; rw [List.length_map] at h; have := HLEN.out; omega
   have hfit := HCN.out.fits hI2.2
   have hn1 : n1 ≤ 1000 := by have := (SY.got E (A1 := A1) (n1 := n1) (c1 := c1) (x := v.natAbs) (by simp)).len; omega
   have hk1 : k ≤ 4010 := hfit.2
   clear hI2 hfit
   obtain ⟨p0, p1, p2, pf0, pf1, pf2, plt⟩ := SY.facts E
   go_wp2_with fail
   clear p0 p1 p2 pf0 pf1 pf2 plt
   rcases Nat.lt_or_ge a n with han | han
   ·obtain ⟨t, ht⟩ : ∃ t, L[a]? = some t := ⟨_, List.getElem?_eq_getElem (by have := HLEN.out; omega)⟩
    obtain ⟨kk, T, l, m⟩ := t
    refine (pnext_some E.out.st E.out.rd (by have := E.out.pl; have := E.out.st.lt; omega) (by omega) ht).mono ?_; rintro e w10 ⟨rfl, hb⟩
    replace E := Lib.hid (SY.step E.out hb)
    clear hb
    unfold tk4
    go_wp2_with fail
    have SG2 := Lib.hid (SG.out.kp E.out.kp hqg)
    replace E := Lib.hid (SY.word (g1 := w10.heap.size) E.out kk T l m (t := 39) rfl)
    replace SG2 := Lib.hid (SG2.out.on ((Below.refl _ w10).alloc (Nat.le_refl _) (.cells #[.int .i64 kk, .string T, .int .i64 l, .int .i64 m] 39)))
    obtain ⟨g11, hg11⟩ : ∃ g, w10.heap.size = g := ⟨_, rfl⟩
    rw [hg11] at E ⊢
    clear hg11
    generalize hV : World.alloc w10 _ = V10 at E SG2 ⊢
    clear hV
    obtain ⟨bz, hbz⟩ : ∃ bz, isgs (kk, T) [s1, s2] = bz := ⟨_, rfl⟩
    have hbz2 : (isg (kk, T) x || isg (kk, T) y) = bz := by rw [← isgs_two _ H1.out H2.out]; exact hbz
    have hxy : ∀ c, isAt (L.map tok) a c = isg (kk, T) c := fun c => isAt_some ht
    refine (pissign SG2.out hbz l m).mono ?_; rintro e w11 ⟨rfl, hb⟩
    replace E := Lib.hid (SY.step E.out hb)
    clear hb hbz SG2
    cases bz with
    | false =>
     rw [Bool.or_eq_false_iff] at hbz2
     have HO : Hid (S = .inr (v, k, a)) := by
      show _ = _
      rw [HF.out]
      exact HCN.out.fin ((hxy _).trans hbz2.1) ((hxy _).trans hbz2.2)
     clear hbz2 hxy ht
     obtain ⟨q0, q1, q2, qf0, qf1, qf2, qlt⟩ := SY.ad v A1 n1 c1 k (g1 := g8) E (by simp)
     obtain ⟨r0, r1, r2, rf0, rf1, rf2, rlt⟩ := SY.az (g1 := w.heap.size) E (by simp)
     go_wp2_with fail
     clear q0 q1 q2 qf0 qf1 qf2 qlt
     clear r0 r1 r2 rf0 rf1 rf2 rlt
     have EF := Lib.hid (SY.pz E.out (g1 := w.heap.size) (by simp) (.bool (ngB v)) (.slice A1 n1 c1) (.int .i64 (k : Int)))
     obtain ⟨r0, r1, r2, _, _, _, _⟩ := SY.ad v A1 n1 c1 k (g1 := w.heap.size) EF (by simp)
     exact bodyPost_ret (v := .tuple #[.agg #[.bool (ngB v), .slice A1 n1 c1, .int .i64 (k : Int)], .int .i64 0]) (by simp [results, Tryz.results46, go_sem, r0, r1, r2]) rfl ⟨v, k, A1, n1, c1, a, 0, rfl, SY.got EF (by simp), EF.out.st, EF.out.kp, by rw [HO.out]; exact ⟨rfl, rfl, rfl, rfl⟩⟩
    | true =>
     obtain ⟨z, hz, hz1⟩ : ∃ z, (z = x ∨ z = y) ∧ isg (kk, T) z = true := by
      rcases Bool.or_eq_true_iff.1 hbz2 with h | h
      ·exact ⟨x, .inl rfl, h⟩
      ·exact ⟨y, .inr rfl, h⟩
     have hza : isAt (L.map tok) a z = true := (hxy z).trans hz1
     have hT : bs9 T = [z] := by
      rw [isg_is, Bool.and_eq_true] at hz1
      exact of_decide_eq_true hz1.2
     have hz4 : z = 43 ∨ z = 45 ∨ z = 42 ∨ z = 47 := by
      rcases hz with rfl | rfl
      ·exact HCN.out.sx
      ·exact HCN.out.sy
     have hxy2 : isAt (L.map tok) a x = true ∨ isAt (L.map tok) a y = true := by
      rcases hz with rfl | rfl
      ·exact .inl hza
      ·exact .inr hza
     have HZ := Lib.hid hz
     have HZA := Lib.hid hza
     have HT := Lib.hid hT
     have HZ4 := Lib.hid hz4
     have HXY := Lib.hid hxy2
     clear hbz2 hxy ht hz1 hz hza hT hz4 hxy2
     obtain ⟨a1, ha1⟩ : ∃ a1, a + 1 = a1 := ⟨_, rfl⟩
     have HA1 := Lib.hid ha1
     have ha1n : i ≤ a1 ∧ a1 ≤ n := by omega
     clear ha1
     go_wp2_with fail
     refine (ppass E.out.st (by omega) a1 HA1.out).mono ?_; rintro e w12 ⟨rfl, rfl⟩
     replace E := Lib.hid (SY.set1 E.out a1)
     generalize hV : World.setCell w11 _ _ = V11 at E ⊢
     clear hV
     go_wp2_with fail
     refine (HPP.out a1 ha1n.1 ha1n.2 _ E.out.st E.out.rd E.out.mx).mono ?_; rintro e w7 ⟨x7, k7, A7, n7, c7, i7, e7, rfl, hnum7, hst7, hkp7, hout⟩
     replace E := Lib.hid (SY.push (SY.call E.out hkp7 hst7) hnum7)
     clear hnum7 hst7 hkp7
     cases hP : P a1 with
     | inl r =>
      obtain ⟨z7, b7⟩ := r
      rw [hP] at hout
      obtain ⟨hz7, rfl, rfl, -, -⟩ := hout
      have dz : ((e7 : Int) != 0) = true := by rw [bne_iff_ne]; omega
      have HO : Hid (S = .inl (e7, i7)) := by
       show _ = _
       rw [HF.out]
       exact HCN.out.err HXY.out (by rw [HA1.out]; exact hP)
      clear hP
      have EL := Lib.hid (SY.lay (g1 := w7.heap.size) (x0 := .bool (ngB x7)) (x1 := .slice A7 n7 c7) (x2 := .int .i64 (k7 : Int)) (t := 26) E.out rfl)
      clear E
      obtain ⟨r0, r1, r2, rf0, rf1, rf2, rlt⟩ := SY.az (g1 := w.heap.size) EL (by simp)
      go_wp2_with fail
      clear r0 r1 r2 rf0 rf1 rf2 rlt
      have EF := Lib.hid (SY.pz EL.out (g1 := w.heap.size) (by simp) (.bool false) (.slice none 0 0) (.int .i64 0))
      obtain ⟨r0, r1, r2, _, _, _, _⟩ := SY.az (g1 := w.heap.size) EF (by simp)
      exact bodyPost_ret (v := .tuple #[.agg #[.bool false, .slice none 0 0, .int .i64 0], .int .i64 (e7 : Int)]) (by simp [results, Tryz.results46, go_sem, r0, r1, r2]) rfl ⟨0, 0, none, 0, 0, i7, e7, rfl, num_zero _ _, EF.out.st, EF.out.kp, by rw [HO.out]; exact ⟨hz7, rfl, rfl, rfl, rfl⟩⟩
     | inr r =>
      obtain ⟨j, s, b⟩ := r
      rw [hP] at hout
      obtain ⟨rfl, rfl, rfl, rfl⟩ := hout
      have hP2 : P (a + 1) = .inr (x7, k7, i7) := by rw [HA1.out]; exact hP
      have hg7 := HCN.out.pgrt hP
      have hfit7 := HCN.out.fits hg7
      have hn7 : n7 ≤ 1000 := by have := (SY.got E (A1 := A7) (n1 := n7) (c1 := c7) (x := x7.natAbs) (by simp)).len; omega
      have hk7 : k7 ≤ 4010 := hfit7.2
      have hai : a < i7 := by have := (HCN.out.rng hg7).1; have := HA1.out; omega
      have HQ : Hid (z = 47 → x7 ≠ 0 → (dg (quoQ v k x7 k7).natAbs).length ≤ 1000) := fun _ h => HCN.out.len HG.out hP2 h
      obtain ⟨r, hr⟩ : ∃ r, jnd z v k x7 k7 = r := ⟨_, rfl⟩
      have HGO : Hid (r.2.2 = 0 → S = F r.1 r.2.1 i7 ∧ G i i7 r.1 r.2.1) := fun h => by
       rw [← hr] at h ⊢
       exact ⟨HF.out.trans (HCN.out.go HZ.out HZA.out hP2 h), HCN.out.grt HZ.out HG.out hP2 h⟩
      have HBD : Hid (0 < r.2.2 → S = .inl (r.2.2, a) ∧ r.1 = 0 ∧ r.2.1 = 0) := fun h => by
       rw [← hr] at h ⊢
       have h2 := HCN.out.bad HZ.out HZA.out hP2 h
       exact ⟨HF.out.trans h2.1, h2.2⟩
      have HR := Lib.hid hr
      clear hP hP2 hg7 hfit7 hr
      have EL := Lib.hid (SY.lay (g1 := w7.heap.size) (x0 := .bool (ngB x7)) (x1 := .slice A7 n7 c7) (x2 := .int .i64 (k7 : Int)) (t := 26) E.out rfl)
      clear E
      obtain ⟨q0, q1, q2, qf0, qf1, qf2, qlt⟩ := SY.ad v A1 n1 c1 k (g1 := g8) EL (by simp)
      obtain ⟨t0, t1, t2, t3, tf0, tf1, tf2, tf3, tlt⟩ := SY.wat (k := kk) (T := T) (p := l) (q := m) (g1 := g11) EL (by simp)
      go_wp2_with fail
      clear q0 q1 q2 qf0 qf1 qf2 qlt
      clear t0 t1 t2 t3 tf0 tf1 tf2 tf3 tlt
      replace E := EL
      clear EL
      generalize hV : World.alloc w7 _ = V12 at E ⊢
      clear hV
      refine (pjoin (SY.got E (A1 := A1) (n1 := n1) (c1 := c1) (by simp)) (SY.got E (A1 := A7) (n1 := n7) (c1 := c7) (by simp)) hn1 hn7 hk1 hk7 HZ4.out HQ.out HT.out).mono ?_; rintro e w14 ⟨A2, n2, c2, rfl, hnum2, hb2⟩
      rw [HR.out] at hnum2 ⊢
      replace E := Lib.hid (SY.push (SY.step E.out hb2) hnum2)
      clear hnum2 hb2
      have hgg : g ≠ g8 := by
       have h0 := (SY.facts E).c0
       have h1 := (SY.ad v A1 n1 c1 k (g1 := g8) E (by simp)).c0
       rintro rfl
       rw [h0] at h1; cases h1
      have hgg2 : g8 ≠ g := fun e => hgg e.symm
      have EP := Lib.hid (SY.sub (l' := [(A2, n2, c2, r.1.natAbs)]) (bs' := [(g8, .bool (ngB r.1), .slice A2 n2 c2, .int .i64 (r.2.1 : Int)), (w.heap.size, .bool false, .slice none 0 0, .int .i64 0)]) (ts' := []) (SY.put E.out (g1 := g8) (b := ngB v) (A1 := A1) (n1 := n1) (c1 := c1) (k1 := (k : Int)) (by simp) [(w.heap.size, .bool false, .slice none 0 0, .int .i64 0)] (fun q hq => by simp at hq; subst hq; exact ⟨by simp, n5⟩) (.bool (ngB r.1)) (.slice A2 n2 c2) (.int .i64 (r.2.1 : Int))) (by simp) (by simp) (by simp))
      rcases Nat.eq_zero_or_pos r.2.2 with h0 | h0
      ·have hgo := HGO.out h0
       have dz : ((r.2.2 : Int) != 0) = false := by rw [h0]; rfl
       have J : Hid (ChI G i F S r.1 r.2.1 i7 r.2.2) := .inl ⟨h0, hgo⟩
       have HZR := Lib.hid h0
       clear hgo h0
       obtain ⟨q0, q1, q2, qf0, qf1, qf2, qlt⟩ := SY.ad v A1 n1 c1 k (g1 := g8) E (by simp)
       go_wp2_with fail
       clear q0 q1 q2 qf0 qf1 qf2 qlt
       go_roundw
       case rel => exact ⟨r.2.2, r.1, r.2.1, A2, n2, c2, i7, rfl, EP.out, J.out⟩
       case measure =>
        show msp g n (.int .i64 (r.2.2 : Int)) _ < msp g n (.int .i64 ((0 : Nat) : Int)) _
        rw [msp_is EP.out.st, msp_is S0.out, if_pos HZR.out, if_pos rfl]
        omega
      ·have hbd := HBD.out h0
       have dz : ((r.2.2 : Int) != 0) = true := by rw [bne_iff_ne]; omega
       have EQ := Lib.hid (SY.set1 EP.out a)
       have J : Hid (ChI G i F S r.1 r.2.1 a r.2.2) := .inr ⟨h0, by rw [hbd.1]; exact ⟨h0, rfl, rfl, hbd.2⟩⟩
       have HZR := Lib.hid h0
       clear hbd h0
       obtain ⟨q0, q1, q2, qf0, qf1, qf2, qlt⟩ := SY.ad v A1 n1 c1 k (g1 := g8) E (by simp)
       obtain ⟨p0, p1, p2, pf0, pf1, pf2, plt⟩ := SY.facts E
       go_wp2_with fail
       clear q0 q1 q2 qf0 qf1 qf2 qlt
       clear p0 p1 p2 pf0 pf1 pf2 plt
       go_roundw
       case rel => exact ⟨r.2.2, r.1, r.2.1, A2, n2, c2, a, rfl, EQ.out, J.out⟩
       case measure =>
        show msp g n (.int .i64 (r.2.2 : Int)) _ < msp g n (.int .i64 ((0 : Nat) : Int)) _
        rw [msp_is EQ.out.st, msp_is S0.out, if_neg (by have := HZR.out; omega), if_pos rfl]
        omega
   ·obtain rfl : a = n := by omega
    refine (pnext_end E.out.st rfl).mono ?_; rintro e w10 ⟨rfl, hb⟩
    replace E := Lib.hid (SY.step E.out hb)
    clear hb
    have HO : Hid (S = .inr (v, k, a)) := by
     show _ = _
     rw [HF.out]
     exact HCN.out.fin (isAt_none (by have := HLEN.out; omega)) (isAt_none (by have := HLEN.out; omega))
    have EL := Lib.hid (SY.word (g1 := w10.heap.size) E.out 0 ⟨#[]⟩ 0 0 (t := 39) rfl)
    clear E
    obtain ⟨q0, q1, q2, qf0, qf1, qf2, qlt⟩ := SY.ad v A1 n1 c1 k (g1 := g8) EL (by simp)
    obtain ⟨r0, r1, r2, rf0, rf1, rf2, rlt⟩ := SY.az (g1 := w.heap.size) EL (by simp)
    go_wp2_with fail
    clear q0 q1 q2 qf0 qf1 qf2 qlt
    clear r0 r1 r2 rf0 rf1 rf2 rlt
    have EF := Lib.hid (SY.pz EL.out (g1 := w.heap.size) (by simp) (.bool (ngB v)) (.slice A1 n1 c1) (.int .i64 (k : Int)))
    obtain ⟨r0, r1, r2, _, _, _, _⟩ := SY.ad v A1 n1 c1 k (g1 := w.heap.size) EF (by simp)
    exact bodyPost_ret (v := .tuple #[.agg #[.bool (ngB v), .slice A1 n1 c1, .int .i64 (k : Int)], .int .i64 0]) (by simp [results, Tryz.results46, go_sem, r0, r1, r2]) rfl ⟨v, k, A1, n1, c1, a, 0, rfl, SY.got EF (by simp), EF.out.st, EF.out.kp, by rw [HO.out]; exact ⟨rfl, rfl, rfl, rfl⟩⟩
  ·have HO : Hid (OutX v k a e S) := by
    rcases I.out with ⟨q1, _⟩ | ⟨_, q1⟩
    ·omega
    ·exact q1
   have dz : ((e : Int) == 0) = false := by rw [beq_eq_false_iff_ne]; omega
   obtain ⟨q0, q1, q2, qf0, qf1, qf2, qlt⟩ := SY.ad v A1 n1 c1 k (g1 := g8) E (by simp)
   obtain ⟨r0, r1, r2, rf0, rf1, rf2, rlt⟩ := SY.az (g1 := w.heap.size) E (by simp)
   go_wp2_with fail
   clear q0 q1 q2 qf0 qf1 qf2 qlt
   clear r0 r1 r2 rf0 rf1 rf2 rlt
   have EF := Lib.hid (SY.pz E.out (g1 := w.heap.size) (by simp) (.bool (ngB v)) (.slice A1 n1 c1) (.int .i64 (k : Int)))
   obtain ⟨r0, r1, r2, _, _, _, _⟩ := SY.ad v A1 n1 c1 k (g1 := w.heap.size) EF (by simp)
   exact bodyPost_ret (v := .tuple #[.agg #[.bool (ngB v), .slice A1 n1 c1, .int .i64 (k : Int)], .int .i64 (e : Int)]) (by simp [results, Tryz.results46, go_sem, r0, r1, r2]) rfl ⟨v, k, A1, n1, c1, a, e, rfl, SY.got EF (by simp), EF.out.st, EF.out.kp, HO.out⟩
structure C6 (w : World) (g : Nat) (x0 x1 x2 x3 x4 x5 : Value) : Prop where
 c0 : w.cell? ⟨g, 0, none⟩ = some x0
 c1 : w.cell? ⟨g, 1, none⟩ = some x1
 c2 : w.cell? ⟨g, 2, none⟩ = some x2
 c3 : w.cell? ⟨g, 3, none⟩ = some x3
 c4 : w.cell? ⟨g, 4, none⟩ = some x4
 c5 : w.cell? ⟨g, 5, none⟩ = some x5
 lt : g < w.heap.size
theorem C6.newAt (v : World) (x0 x1 x2 x3 x4 x5 : Value) (t : TypeId) {g : Nat} (h : g = v.heap.size) : C6 (v.alloc (.cells #[x0, x1, x2, x3, x4, x5] t)) g x0 x1 x2 x3 x4 x5 := by
 subst h; exact ⟨by simp, by simp, by simp, by simp, by simp, by simp, by simp⟩
theorem C6.on {w w' : World} {g : Nat} {x0 x1 x2 x3 x4 x5 : Value} (h : C6 w g x0 x1 x2 x3 x4 x5) (hb : Below w.heap.size w w') : C6 w' g x0 x1 x2 x3 x4 x5 :=
  ⟨(hb.cell (p := ⟨g, 0, none⟩) h.lt).trans h.c0, (hb.cell (p := ⟨g, 1, none⟩) h.lt).trans h.c1, (hb.cell (p := ⟨g, 2, none⟩) h.lt).trans h.c2, (hb.cell (p := ⟨g, 3, none⟩) h.lt).trans h.c3,
   (hb.cell (p := ⟨g, 4, none⟩) h.lt).trans h.c4, (hb.cell (p := ⟨g, 5, none⟩) h.lt).trans h.c5, Nat.lt_of_lt_of_le h.lt hb.size⟩
def AWK13 (ok : World → Prop) : Prop := ∀ w : World, ok w → Calls Tryz.prog 8 #[] w (Ret9 w (.bool true))
theorem says_small {ok : World → Prop} (hk : Okw ok) (AW : AWK13 ok) {w : World} (hok : ok w) {A : Option Addr} {n c : Nat} {L : List Tk4} (hr : RdK w w.heap.size A n c L) (a : Int) {b1 b2 : Bool} {A1 A2 : Option Addr} {n1 c1 n2 c2 : Nat} {xs1 xs2 : List Nat} {k1 k2 : Int} (h1 : Lim w w.heap.size A1 n1 c1 xs1) (h2 : Lim w w.heap.size A2 n2 c2 xs2) (hsm : smallB (L.map tok) = false) : Calls Tryz.prog 3 #[.slice A n c, .int .i64 a, .agg #[.bool b1, .slice A1 n1 c1, .int .i64 k1, .bool b2, .slice A2 n2 c2, .int .i64 k2]] w (Ret9 w (.bool true)) := by
 have HK : Hid (Okw ok) := hk
 have HB : Hid (Below w.heap.size w w) := Below.refl _ _
 have E : Hid (Below w.heap.size w (w.alloc (.cells #[.bool b1, .slice A1 n1 c1, .int .i64 k1, .bool b2, .slice A2 n2 c2, .int .i64 k2] 27))) := (Below.refl _ _).alloc (Nat.le_refl _) _
 have C := Lib.hid (C6.newAt w (.bool b1) (.slice A1 n1 c1) (.int .i64 k1) (.bool b2) (.slice A2 n2 c2) (.int .i64 k2) 27 rfl)
 have R := Lib.hid (hr.on (Nat.le_refl _) E.out)
 have H1 := Lib.hid (h1.on E.out)
 have H2 := Lib.hid (h2.on E.out)
 clear hk hr h1 h2 HB
 go_enter Tryz.func3, Tryz.ntmps3
 go_wp2_with fail
 generalize hW : World.alloc w _ = W1 at E C R H1 H2 ⊢
 clear hW
 refine (small13 R.out (by have := E.out.size; omega) (b := false) hsm).mono ?_; rintro e w1 ⟨rfl, hb⟩
 replace R := Lib.hid (R.out.on (by have := E.out.size; omega) hb); replace E := Lib.hid (E.out.trans (hb.mono E.out.size)); replace C := Lib.hid (C.out.on hb); replace H1 := Lib.hid (H1.out.on hb); replace H2 := Lib.hid (H2.out.on hb); clear hb
 go_wp2_with fail
 refine (AW _ (HK.out hok E.out)).mono ?_; rintro e w9 ⟨rfl, hb⟩
 replace E := Lib.hid (E.out.trans (hb.mono E.out.size)); clear hb
 go_wp2_with fail
 go_ret
 exact ⟨rfl, E.out⟩
theorem says_long1 {ok : World → Prop} (hk : Okw ok) (AW : AWK13 ok) {w : World} (hok : ok w) {A : Option Addr} {n c : Nat} {L : List Tk4} (hr : RdK w w.heap.size A n c L) (a : Int) {b1 b2 : Bool} {A1 A2 : Option Addr} {n1 c1 n2 c2 : Nat} {xs1 xs2 : List Nat} {k1 k2 : Int} (h1 : Lim w w.heap.size A1 n1 c1 xs1) (h2 : Lim w w.heap.size A2 n2 c2 xs2) (hsm : smallB (L.map tok) = true) (hl1 : longB b1 n1 xs1 k1 = true) : Calls Tryz.prog 3 #[.slice A n c, .int .i64 a, .agg #[.bool b1, .slice A1 n1 c1, .int .i64 k1, .bool b2, .slice A2 n2 c2, .int .i64 k2]] w (Ret9 w (.bool true)) := by
 have HK : Hid (Okw ok) := hk
 have HB : Hid (Below w.heap.size w w) := Below.refl _ _
 have E : Hid (Below w.heap.size w (w.alloc (.cells #[.bool b1, .slice A1 n1 c1, .int .i64 k1, .bool b2, .slice A2 n2 c2, .int .i64 k2] 27))) := (Below.refl _ _).alloc (Nat.le_refl _) _
 have C := Lib.hid (C6.newAt w (.bool b1) (.slice A1 n1 c1) (.int .i64 k1) (.bool b2) (.slice A2 n2 c2) (.int .i64 k2) 27 rfl)
 have R := Lib.hid (hr.on (Nat.le_refl _) E.out)
 have H1 := Lib.hid (h1.on E.out)
 have H2 := Lib.hid (h2.on E.out)
 clear hk hr h1 h2 HB
 go_enter Tryz.func3, Tryz.ntmps3
 go_wp2_with fail
 generalize hW : World.alloc w _ = W1 at E C R H1 H2 ⊢
 clear hW
 refine (small13 R.out (by have := E.out.size; omega) (b := true) hsm).mono ?_; rintro e w1 ⟨rfl, hb⟩
 replace R := Lib.hid (R.out.on (by have := E.out.size; omega) hb); replace E := Lib.hid (E.out.trans (hb.mono E.out.size)); replace C := Lib.hid (C.out.on hb); replace H1 := Lib.hid (H1.out.on hb); replace H2 := Lib.hid (H2.out.on hb); clear hb
 obtain ⟨p0, p1, p2, p3, p4, p5, plt⟩ := C.out
 go_wp2_with fail
 clear p0 p1 p2 p3 p4 p5 plt
 refine (long_is H1.out hl1).mono ?_; rintro e w2 ⟨rfl, hb⟩
 replace R := Lib.hid (R.out.on (by have := E.out.size; omega) hb); replace E := Lib.hid (E.out.trans (hb.mono E.out.size)); replace C := Lib.hid (C.out.on hb); replace H1 := Lib.hid (H1.out.on hb); replace H2 := Lib.hid (H2.out.on hb); clear hb
 go_wp2_with fail
 refine (AW _ (HK.out hok E.out)).mono ?_; rintro e w9 ⟨rfl, hb⟩
 replace E := Lib.hid (E.out.trans (hb.mono E.out.size)); clear hb
 go_wp2_with fail
 go_ret
 exact ⟨rfl, E.out⟩
theorem says_long2 {ok : World → Prop} (hk : Okw ok) (AW : AWK13 ok) {w : World} (hok : ok w) {A : Option Addr} {n c : Nat} {L : List Tk4} (hr : RdK w w.heap.size A n c L) (a : Int) {b1 b2 : Bool} {A1 A2 : Option Addr} {n1 c1 n2 c2 : Nat} {xs1 xs2 : List Nat} {k1 k2 : Int} (h1 : Lim w w.heap.size A1 n1 c1 xs1) (h2 : Lim w w.heap.size A2 n2 c2 xs2) (hsm : smallB (L.map tok) = true) (hl1 : longB b1 n1 xs1 k1 = false) (hl2 : longB b2 n2 xs2 k2 = true) : Calls Tryz.prog 3 #[.slice A n c, .int .i64 a, .agg #[.bool b1, .slice A1 n1 c1, .int .i64 k1, .bool b2, .slice A2 n2 c2, .int .i64 k2]] w (Ret9 w (.bool true)) := by
 have HK : Hid (Okw ok) := hk
 have HB : Hid (Below w.heap.size w w) := Below.refl _ _
 have E : Hid (Below w.heap.size w (w.alloc (.cells #[.bool b1, .slice A1 n1 c1, .int .i64 k1, .bool b2, .slice A2 n2 c2, .int .i64 k2] 27))) := (Below.refl _ _).alloc (Nat.le_refl _) _
 have C := Lib.hid (C6.newAt w (.bool b1) (.slice A1 n1 c1) (.int .i64 k1) (.bool b2) (.slice A2 n2 c2) (.int .i64 k2) 27 rfl)
 have R := Lib.hid (hr.on (Nat.le_refl _) E.out)
 have H1 := Lib.hid (h1.on E.out)
 have H2 := Lib.hid (h2.on E.out)
 clear hk hr h1 h2 HB
 go_enter Tryz.func3, Tryz.ntmps3
 go_wp2_with fail
 generalize hW : World.alloc w _ = W1 at E C R H1 H2 ⊢
 clear hW
 refine (small13 R.out (by have := E.out.size; omega) (b := true) hsm).mono ?_; rintro e w1 ⟨rfl, hb⟩
 replace R := Lib.hid (R.out.on (by have := E.out.size; omega) hb); replace E := Lib.hid (E.out.trans (hb.mono E.out.size)); replace C := Lib.hid (C.out.on hb); replace H1 := Lib.hid (H1.out.on hb); replace H2 := Lib.hid (H2.out.on hb); clear hb
 obtain ⟨p0, p1, p2, p3, p4, p5, plt⟩ := C.out
 go_wp2_with fail
 clear p0 p1 p2 p3 p4 p5 plt
 refine (long_is H1.out hl1).mono ?_; rintro e w2 ⟨rfl, hb⟩
 replace R := Lib.hid (R.out.on (by have := E.out.size; omega) hb); replace E := Lib.hid (E.out.trans (hb.mono E.out.size)); replace C := Lib.hid (C.out.on hb); replace H1 := Lib.hid (H1.out.on hb); replace H2 := Lib.hid (H2.out.on hb); clear hb
 obtain ⟨p0, p1, p2, p3, p4, p5, plt⟩ := C.out
 go_wp2_with fail
 clear p0 p1 p2 p3 p4 p5 plt
 refine (long_is H2.out hl2).mono ?_; rintro e w3 ⟨rfl, hb⟩
 replace R := Lib.hid (R.out.on (by have := E.out.size; omega) hb); replace E := Lib.hid (E.out.trans (hb.mono E.out.size)); replace C := Lib.hid (C.out.on hb); replace H1 := Lib.hid (H1.out.on hb); replace H2 := Lib.hid (H2.out.on hb); clear hb
 go_wp2_with fail
 refine (AW _ (HK.out hok E.out)).mono ?_; rintro e w9 ⟨rfl, hb⟩
 replace E := Lib.hid (E.out.trans (hb.mono E.out.size)); clear hb
 go_wp2_with fail
 go_ret
 exact ⟨rfl, E.out⟩
theorem says_go {ok : World → Prop} (hk : Okw ok) (AW : AWK13 ok) (EV : EVL ok) (QU : QUO ok) (ST : STS ok) {w : World} (hok : ok w) {A : Option Addr} {n c : Nat} {L : List Tk4} (hr : RdK w w.heap.size A n c L) (a : Int) {i j : Int} {s t : Nat} {A1 A2 : Option Addr} {n1 c1 n2 c2 : Nat} (h1 : Num w w.heap.size A1 n1 c1 i.natAbs) (h2 : Num w w.heap.size A2 n2 c2 j.natAbs) (hsm : smallB (L.map tok) = true) (m1 : n1 ≤ 12) (m2 : n2 ≤ 12) (t1 : s ≤ 60) (t2 : t ≤ 60) : Calls Tryz.prog 3 #[.slice A n c, .int .i64 a, .agg #[.bool (ngB i), .slice A1 n1 c1, .int .i64 (s : Int), .bool (ngB j), .slice A2 n2 c2, .int .i64 (t : Int)]] w (Ret9 w (.bool true)) := by
 have HK : Hid (Okw ok) := hk
 have hc := hr.cap
 have hm := hr.room
 unfold maxLen at hm
 have HLEN := Lib.hid hr.len
 obtain ⟨hL, hl2⟩ := smallB_true hsm
 have HL := Lib.hid hL
 have HN : Hid (n ≤ 200) := by show _ ≤ _; have := hr.len; rw [List.length_map] at hl2; omega
 clear hL hl2
 have E0 := (St.start w (l := [(A1, n1, c1, i.natAbs), (A2, n2, c2, j.natAbs)]) (by intro q hq; simp at hq; rcases hq with rfl | rfl; exact h1; exact h2)).alloc (.cells #[.bool (ngB i), .slice A1 n1 c1, .int .i64 (s : Int), .bool (ngB j), .slice A2 n2 c2, .int .i64 (t : Int)] 27)
 have L1 : Hid (longB (ngB i) n1 (dg i.natAbs) (s : Int) = false) := not_long h1 m1 t1
 have L2 : Hid (longB (ngB j) n2 (dg j.natAbs) (t : Int) = false) := not_long h2 m2 t2
 have C := Lib.hid (C6.newAt w (.bool (ngB i)) (.slice A1 n1 c1) (.int .i64 (s : Int)) (.bool (ngB j)) (.slice A2 n2 c2) (.int .i64 (t : Int)) 27 rfl)
 have R := Lib.hid (hr.on (Nat.le_refl _) ((Below.refl w.heap.size w).alloc (Nat.le_refl _) (.cells #[.bool (ngB i), .slice A1 n1 c1, .int .i64 (s : Int), .bool (ngB j), .slice A2 n2 c2, .int .i64 (t : Int)] 27)))
 have E := Lib.hid E0
 obtain ⟨r, hre⟩ : ∃ r, evl (L.map tok) a = r := ⟨_, rfl⟩
 obtain ⟨q, hqe⟩ : ∃ q, quv i s j t = q := ⟨_, rfl⟩
 have HR := Lib.hid hre
 have HQ := Lib.hid hqe
 clear hk hr h1 h2 E0 hre hqe
 go_enter Tryz.func3, Tryz.ntmps3
 go_wp2_with fail
 generalize hW : World.alloc w _ = W1 at E C R ⊢
 clear hW
 refine (small13 R.out (by have := E.out.bel.size; omega) (b := true) hsm).mono ?_; rintro e w1 ⟨rfl, hb⟩
 replace R := Lib.hid (R.out.on (by have := E.out.bel.size; omega) hb); replace C := Lib.hid (C.out.on hb)
 replace E := Lib.hid (E.out.step hb); clear hb 
 obtain ⟨p0, p1, p2, p3, p4, p5, plt⟩ := C.out
 go_wp2_with fail
 clear p0 p1 p2 p3 p4 p5 plt
 refine (long_is (St.got E (A := A1) (n := n1) (c := c1) (a := (i).natAbs) (by simp)) L1.out).mono ?_; rintro e w2 ⟨rfl, hb⟩
 replace R := Lib.hid (R.out.on (by have := E.out.bel.size; omega) hb); replace C := Lib.hid (C.out.on hb)
 replace E := Lib.hid (E.out.step hb); clear hb 
 obtain ⟨p0, p1, p2, p3, p4, p5, plt⟩ := C.out
 go_wp2_with fail
 clear p0 p1 p2 p3 p4 p5 plt
 refine (long_is (St.got E (A := A2) (n := n2) (c := c2) (a := (j).natAbs) (by simp)) L2.out).mono ?_; rintro e w3 ⟨rfl, hb⟩
 replace R := Lib.hid (R.out.on (by have := E.out.bel.size; omega) hb); replace C := Lib.hid (C.out.on hb)
 replace E := Lib.hid (E.out.step hb); clear hb 
 go_wp2_with fail
 refine (EV (L := L) a R.out (by have := E.out.bel.size; omega) HN.out HL.out (HK.out hok E.out.bel)).mono ?_; rintro e w4 ⟨Aa, na, ca, rfl, hnum, hb⟩
 rw [HR.out] at hnum ⊢
 replace R := Lib.hid (R.out.on (by have := E.out.bel.size; omega) hb); replace C := Lib.hid (C.out.on hb)
 replace E := Lib.hid (E.out.push hb hnum); clear hb hnum
 obtain ⟨p0, p1, p2, p3, p4, p5, plt⟩ := C.out
 go_wp2_with fail
 clear p0 p1 p2 p3 p4 p5 plt
 have hb := (Below.refl _ w4).alloc (Nat.le_refl _) (.cells #[.bool (ngB r.1), .slice Aa na ca, .int .i64 (r.2.1 : Int)] 26)
 replace R := Lib.hid (R.out.on (by have := E.out.bel.size; omega) hb); replace C := Lib.hid (C.out.on hb); clear hb
 replace E := Lib.hid (E.out.lay (g := w4.heap.size) (x0 := .bool (ngB r.1)) (x1 := .slice Aa na ca) (x2 := .int .i64 (r.2.1 : Int)) (t := 26) rfl)
 obtain ⟨g1, hg1⟩ : ∃ g, w4.heap.size = g := ⟨_, rfl⟩
 rw [hg1] at E ⊢
 clear hg1
 generalize hV : World.alloc w4 _ = Vg1 at E C R ⊢
 clear hV
 refine (eval13 R.out (by have := E.out.bel.size; omega) HN.out HL.out a).mono ?_; rintro e w5 ⟨Ab, nb, cb, rfl, hnum, hb⟩
 rw [HR.out] at hnum ⊢
 replace R := Lib.hid (R.out.on (by have := E.out.bel.size; omega) hb); replace C := Lib.hid (C.out.on hb)
 replace E := Lib.hid (E.out.push hb hnum); clear hb hnum
 obtain ⟨p0, p1, p2, p3, p4, p5, plt⟩ := C.out
 go_wp2_with fail
 clear p0 p1 p2 p3 p4 p5 plt
 have hb := (Below.refl _ w5).alloc (Nat.le_refl _) (.cells #[.bool (ngB r.1), .slice Ab nb cb, .int .i64 (r.2.1 : Int)] 26)
 replace R := Lib.hid (R.out.on (by have := E.out.bel.size; omega) hb); replace C := Lib.hid (C.out.on hb); clear hb
 replace E := Lib.hid (E.out.lay (g := w5.heap.size) (x0 := .bool (ngB r.1)) (x1 := .slice Ab nb cb) (x2 := .int .i64 (r.2.1 : Int)) (t := 26) rfl)
 obtain ⟨g2, hg2⟩ : ∃ g, w5.heap.size = g := ⟨_, rfl⟩
 rw [hg2] at E ⊢
 clear hg2
 generalize hV : World.alloc w5 _ = Vg2 at E C R ⊢
 clear hV
 refine (QU (s := s) (t := t) (St.got E (A := A1) (n := n1) (c := c1) (a := (i).natAbs) (by simp)) (St.got E (A := A2) (n := n2) (c := c2) (a := (j).natAbs) (by simp)) m1 m2 t1 t2 (HK.out hok E.out.bel)).mono ?_; rintro e w6 ⟨Ac, nc, cc, rfl, hnum, hb⟩
 rw [HQ.out] at hnum ⊢
 replace R := Lib.hid (R.out.on (by have := E.out.bel.size; omega) hb); replace C := Lib.hid (C.out.on hb)
 replace E := Lib.hid (E.out.push hb hnum); clear hb hnum
 obtain ⟨p0, p1, p2, p3, p4, p5, plt⟩ := C.out
 go_wp2_with fail
 clear p0 p1 p2 p3 p4 p5 plt
 have hb := (Below.refl _ w6).alloc (Nat.le_refl _) (.cells #[.bool (ngB q.1), .slice Ac nc cc, .int .i64 (q.2.1 : Int)] 26)
 replace R := Lib.hid (R.out.on (by have := E.out.bel.size; omega) hb); replace C := Lib.hid (C.out.on hb); clear hb
 replace E := Lib.hid (E.out.lay (g := w6.heap.size) (x0 := .bool (ngB q.1)) (x1 := .slice Ac nc cc) (x2 := .int .i64 (q.2.1 : Int)) (t := 26) rfl)
 obtain ⟨g3, hg3⟩ : ∃ g, w6.heap.size = g := ⟨_, rfl⟩
 rw [hg3] at E ⊢
 clear hg3
 generalize hV : World.alloc w6 _ = Vg3 at E C R ⊢
 clear hV
 refine (refquo13 (s := s) (t := t) (St.got E (A := A1) (n := n1) (c := c1) (a := (i).natAbs) (by simp)) (St.got E (A := A2) (n := n2) (c := c2) (a := (j).natAbs) (by simp)) m1 m2 t1 t2).mono ?_; rintro e w7 ⟨Ad, nd, cd, rfl, hnum, hb⟩
 rw [HQ.out] at hnum ⊢
 replace R := Lib.hid (R.out.on (by have := E.out.bel.size; omega) hb); replace C := Lib.hid (C.out.on hb)
 replace E := Lib.hid (E.out.push hb hnum); clear hb hnum
 obtain ⟨p0, p1, p2, p3, p4, p5, plt⟩ := C.out
 go_wp2_with fail
 clear p0 p1 p2 p3 p4 p5 plt
 have hb := (Below.refl _ w7).alloc (Nat.le_refl _) (.cells #[.bool (ngB q.1), .slice Ad nd cd, .int .i64 (q.2.1 : Int)] 26)
 replace R := Lib.hid (R.out.on (by have := E.out.bel.size; omega) hb); replace C := Lib.hid (C.out.on hb); clear hb
 replace E := Lib.hid (E.out.lay (g := w7.heap.size) (x0 := .bool (ngB q.1)) (x1 := .slice Ad nd cd) (x2 := .int .i64 (q.2.1 : Int)) (t := 26) rfl)
 obtain ⟨g4, hg4⟩ : ∃ g, w7.heap.size = g := ⟨_, rfl⟩
 rw [hg4] at E ⊢
 clear hg4
 generalize hV : World.alloc w7 _ = Vg4 at E C R ⊢
 clear hV
 replace E := Lib.hid (St.sub (l' := [(Aa, na, ca, r.1.natAbs), (Ab, nb, cb, r.1.natAbs), (Ac, nc, cc, q.1.natAbs), (Ad, nd, cd, q.1.natAbs)]) (bs' := [(g1, .bool (ngB r.1), .slice Aa na ca, .int .i64 (r.2.1 : Int)), (g2, .bool (ngB r.1), .slice Ab nb cb, .int .i64 (r.2.1 : Int)), (g3, .bool (ngB q.1), .slice Ac nc cc, .int .i64 (q.2.1 : Int)), (g4, .bool (ngB q.1), .slice Ad nd cd, .int .i64 (q.2.1 : Int))]) E.out (by simp) (by simp))
 have HNc : Hid (n ≤ c) := hc
 go_loopw [65] (fun iv wr => ∃ p : Nat, iv = .int .i64 p ∧ p ≤ n ∧ St w wr [(Aa, na, ca, r.1.natAbs), (Ab, nb, cb, r.1.natAbs), (Ac, nc, cc, q.1.natAbs), (Ad, nd, cd, q.1.natAbs)] [(g1, .bool (ngB r.1), .slice Aa na ca, .int .i64 (r.2.1 : Int)), (g2, .bool (ngB r.1), .slice Ab nb cb, .int .i64 (r.2.1 : Int)), (g3, .bool (ngB q.1), .slice Ac nc cc, .int .i64 (q.2.1 : Int)), (g4, .bool (ngB q.1), .slice Ad nd cd, .int .i64 (q.2.1 : Int))] ∧ RdK wr w.heap.size A n c L) (fun iv _ => n - (intOf iv).toNat)
 case atStart => exact ⟨0, rfl, Nat.zero_le _, E.out, R.out⟩
 case round =>
  obtain ⟨p, rfl, hp, hE, hR⟩ := hrel
  replace E := Lib.hid hE
  replace R := Lib.hid hR
  clear hE hR C L1 L2
  rcases Nat.lt_or_ge p n with h | h
  ·obtain ⟨tk, ht⟩ : ∃ tk, L[p]? = some tk := ⟨_, List.getElem?_eq_getElem (by have := HLEN.out; omega)⟩
   obtain ⟨qq, uu, rfl, -, -, hq, -, a0, a1, a2, a3⟩ := R.out.at_ ht
   obtain ⟨k, T, l, m⟩ := tk
   have hqw : qq < wr.heap.size := by have := E.out.bel.size; omega
   obtain ⟨bs, hbs⟩ : ∃ bs, sta (k, T) = bs := ⟨_, rfl⟩
   have STB : Hid (∀ W, ok W → Calls Tryz.prog 13 #[.agg #[.int .i64 k, .string T, .int .i64 l, .int .i64 m]] W (Ret9 W (.bool bs))) := fun W hW => by have h := ST (k := k) (T := T) l m hW; rw [hbs] at h; exact h
   have HSB := Lib.hid hbs
   clear ht hbs hq
   go_wp2_with fail
   have X := Lib.hid (Bx4.newAt (g := wr.heap.size) wr (.int .i64 k) (.string T) (.int .i64 l) (.int .i64 m) 39 rfl)
   have hb := (Below.refl _ wr).alloc (Nat.le_refl _) (.cells #[.int .i64 k, .string T, .int .i64 l, .int .i64 m] 39)
   replace R := Lib.hid (R.out.on (by have := E.out.bel.size; omega) hb)
   replace E := Lib.hid (E.out.step hb)
   clear hb a0 a1 a2 a3 hqw
   obtain ⟨g9, hg9⟩ : ∃ g, wr.heap.size = g := ⟨_, rfl⟩
   rw [hg9] at X ⊢
   clear hg9
   generalize hV : World.alloc wr _ = V9 at E R X ⊢
   clear hV
   have S0 := X.out.c0
   have S1 := X.out.c1
   have S2 := X.out.c2
   have S3 := X.out.c3
   go_region_held3 (fun v => v.cell? ⟨g9, 0, none⟩ = some (.int .i64 k) ∧ v.cell? ⟨g9, 1, none⟩ = some (.string T) ∧ v.cell? ⟨g9, 2, none⟩ = some (.int .i64 l) ∧ v.cell? ⟨g9, 3, none⟩ = some (.int .i64 m)) (first | with_reducible exact ⟨X.out.c0, X.out.c1, X.out.c2, X.out.c3⟩ | go_keep) (first | (go_at_call 13; refine (STB.out _ (by first | exact HK.out hok (E.out.bel.trans ((Below.refl _ _).drew.mono E.out.bel.size)) | exact HK.out hok E.out.bel)).mono ?_; rintro e w5 ⟨rfl, hb5⟩; (first | have hb := (Below.refl _ _).drew.trans hb5 | have hb := hb5); replace R := Lib.hid (R.out.on (by have := E.out.bel.size; omega) hb); replace X := Lib.hid (X.out.on hb); replace E := Lib.hid (E.out.step hb); clear hb hb5) | (go_at_call 14; refine (starts13 HSB.out l m _).mono ?_; rintro e w5 ⟨rfl, hb5⟩; (first | have hb := (Below.refl _ _).drew.trans hb5 | have hb := hb5); replace R := Lib.hid (R.out.on (by have := E.out.bel.size; omega) hb); replace X := Lib.hid (X.out.on hb); replace E := Lib.hid (E.out.step hb); clear hb hb5))
   all_goals
    go_wp2_with fail
    go_roundw
    case rel => exact ⟨p + 1, by go_num, by omega, E.out, R.out⟩
    case measure => simp [intOf] <;> omega
  ·obtain rfl : p = n := by omega
   obtain ⟨y0, y1, y2, yf0, yf1, yf2, ylt⟩ := St.ad r.1 Aa na ca r.2.1 (g := g1) E (by simp)
   obtain ⟨z0, z1, z2, zf0, zf1, zf2, zlt⟩ := St.ad r.1 Ab nb cb r.2.1 (g := g2) E (by simp)
   go_wp2_with fail
   clear y0 y1 y2 yf0 yf1 yf2 ylt; clear z0 z1 z2 zf0 zf1 zf2 zlt
   refine (refalike_is5 (i := r.1) (j := r.1) (s := r.2.1) (t := r.2.1) (St.got E (A := Aa) (n := na) (c := ca) (a := (r.1).natAbs) (by simp)) (St.got E (A := Ab) (n := nb) (c := cb) (a := (r.1).natAbs) (by simp)) (alike_yes rfl rfl)).mono ?_; rintro e w8 ⟨rfl, hb⟩
   replace E := Lib.hid (E.out.step hb); clear hb
   obtain ⟨y0, y1, y2, yf0, yf1, yf2, ylt⟩ := St.ad q.1 Ac nc cc q.2.1 (g := g3) E (by simp)
   obtain ⟨z0, z1, z2, zf0, zf1, zf2, zlt⟩ := St.ad q.1 Ad nd cd q.2.1 (g := g4) E (by simp)
   go_wp2_with fail
   clear y0 y1 y2 yf0 yf1 yf2 ylt; clear z0 z1 z2 zf0 zf1 zf2 zlt
   refine (refalike_is5 (i := q.1) (j := q.1) (s := q.2.1) (t := q.2.1) (St.got E (A := Ac) (n := nc) (c := cc) (a := (q.1).natAbs) (by simp)) (St.got E (A := Ad) (n := nd) (c := cd) (a := (q.1).natAbs) (by simp)) (alike_yes rfl rfl)).mono ?_; rintro e w9 ⟨rfl, hb⟩
   replace E := Lib.hid (E.out.step hb); clear hb
   go_wp2_with fail
   refine (AW _ (HK.out hok E.out.bel)).mono ?_; rintro e w10 ⟨rfl, hb⟩
   replace E := Lib.hid (E.out.step hb); clear hb
   go_wp2_with fail
   go_ret
   exact ⟨rfl, E.out.bel⟩
theorem says13_law {ok : World → Prop} (hk : Okw ok) (AW : AWK13 ok) (EV : EVL ok) (QU : QUO ok) (ST : STS ok) {w : World} (hok : ok w) {A : Option Addr} {n c : Nat} {L : List Tk4} (hr : RdK w w.heap.size A n c L) (a : Int) {b1 b2 : Bool} {A1 A2 : Option Addr} {n1 c1 n2 c2 : Nat} {xs1 xs2 : List Nat} {k1 k2 : Int} (h1 : Lim w w.heap.size A1 n1 c1 xs1) (h2 : Lim w w.heap.size A2 n2 c2 xs2) : Calls Tryz.prog 3 #[.slice A n c, .int .i64 a, .agg #[.bool b1, .slice A1 n1 c1, .int .i64 k1, .bool b2, .slice A2 n2 c2, .int .i64 k2]] w (Ret9 w (.bool true)) := by
 cases hsm : smallB (L.map tok) with
 | false => exact says_small hk AW hok hr a h1 h2 hsm
 | true =>
  cases hl1 : longB b1 n1 xs1 k1 with
  | true => exact says_long1 hk AW hok hr a h1 h2 hsm hl1
  | false =>
   cases hl2 : longB b2 n2 xs2 k2 with
   | true => exact says_long2 hk AW hok hr a h1 h2 hsm hl1 hl2
   | false =>
    obtain ⟨i, s, rfl, rfl, rfl, m1, t1⟩ := of_long hl1 h1
    obtain ⟨j, t, rfl, rfl, rfl, m2, t2⟩ := of_long hl2 h2
    exact says_go hk AW EV QU ST hok hr a h1 h2 hsm m1 m2 t1 t2
theorem words_lit {w : World} {s : ByteArray} {l : List Nat} {ts : List Wd} (hok : Ok12 w) (hs : bs9 s = l) (hz : s.size ≤ 1000) (h : WD D12 N12 0 l = .inr ts) :
 Calls Tryz.prog 17 #[.string s] w (fun e w' => ∃ A c, e = .returned (.slice A ts.length c) ∧ RdK w' w'.heap.size A ts.length c (tks 1 ts) ∧ Below w.heap.size w w') := words13 hok hz (by rw [hs]; exact h)
theorem mk13 {i v1 v2 : Int} {s : Nat} (w : World) (h1 : v1 = i) (h2 : v2 = (s : Int)) (hb : i.natAbs < 1000000000000) (hs : s ≤ 100000) : Calls Tryz.prog 22 #[.int .i64 v1, .int .i64 v2] w (RetDec w i s) := by
 subst h1; subst h2; exact mk5_any _ s w (show _ ≤ _ by omega) (show _ ≤ _ by omega) hs
theorem we_a : evl ((tks 1 [(4, [49, 46, 53], 1), (10, [43], 5), (4, [50], 7), (10, [42], 9), (4, [51], 11), (3, [85, 83, 68], 13)]).map tok) 0 = ((75 : Int), (1 : Nat), (5 : Int), (0 : Nat)) := by kernel_rfl
theorem wz_a : ∀ t ∈ (tks 1 [(4, [49, 46, 53], 1), (10, [43], 5), (4, [50], 7), (10, [42], 9), (4, [51], 11), (3, [85, 83, 68], 13)]).map tok, t.2.size ≤ 30 := by decide
theorem we_b : evl ((tks 1 [(10, [45], 1), (10, [40], 2), (4, [49], 3), (10, [45], 5), (4, [52], 7), (10, [41], 8), (10, [47], 10), (4, [56], 12)]).map tok) 0 = ((375 : Int), (3 : Nat), (8 : Int), (0 : Nat)) := by kernel_rfl
theorem wz_b : ∀ t ∈ (tks 1 [(10, [45], 1), (10, [40], 2), (4, [49], 3), (10, [45], 5), (4, [52], 7), (10, [41], 8), (10, [47], 10), (4, [56], 12)]).map tok, t.2.size ≤ 30 := by decide
theorem we_c : evl ((tks 1 [(4, [49], 1), (10, [47], 3), (10, [40], 5), (4, [50], 6), (10, [45], 8), (4, [50], 10), (10, [41], 11)]).map tok) 0 = ((0 : Int), (0 : Nat), (1 : Int), (4 : Nat)) := by kernel_rfl
theorem wz_c : ∀ t ∈ (tks 1 [(4, [49], 1), (10, [47], 3), (10, [40], 5), (4, [50], 6), (10, [45], 8), (4, [50], 10), (10, [41], 11)]).map tok, t.2.size ≤ 30 := by decide
theorem we_d : evl ((tks 1 [(10, [40], 1), (4, [49], 2)]).map tok) 0 = ((0 : Int), (0 : Nat), (2 : Int), (2 : Nat)) := by kernel_rfl
theorem wz_d : ∀ t ∈ (tks 1 [(10, [40], 1), (4, [49], 2)]).map tok, t.2.size ≤ 30 := by decide
section
variable {P : Program} {ops : Array Oper} {Q : Exit → Act → World → Prop} {md : Region.Mode}
theorem anyH_mono {S S2 : World → Prop} (h : ∀ v, S2 v → S v) : ∀ (fuel : Nat) (listed : Array Bool) (a : Act) (w : World), wpAnyH P md ops Q S2 fuel listed a w → wpAnyH P md ops Q S fuel listed a w
 | 0, _, _, _, h' => h'
 | fuel + 1, _, _, _, h' => ⟨h'.1, fun i hi => wpOp_mono (fun _ _ q => ⟨h _ q.1, anyH_mono h fuel _ _ _ q.2⟩) (h'.2 i hi)⟩
theorem line_more {S S2 : World → Prop} (h : ∀ v, S2 v → S v) {c k : Nat} {ex : List Nat} {a : Act} {w : World} (hl : Line P ops Q S2 c k ex a w) : Line P ops Q S c k ex a w := anyH_mono h _ _ _ _ hl
end
section
variable {o : Oper} {ρ : Operand → Value} {x y : Operand} {w : World}
theorem e_eq13 {i j : Int} {b : Bool} {t t' : TypeId} (hb : (i == j) = b) (h : o.op = .binOp .eql t x y t') (hx : ρ x = .int .i64 i) (hy : ρ y = .int .i64 j) : (execOp ρ o).run Tryz.prog w = .ok (.value (.bool b)) w := by
 subst hb
 obtain ⟨_, op, _, _, _, _⟩ := o
 subst h
 simp [execOp, go_sem, hx, hy]
theorem e_loadD13 {g : Nat} {x0 x1 x2 : Value} (h : o.op = .load 26 x) (hx : ρ x = .pointer (some ⟨g, 0, none⟩)) (c0 : w.cell? ⟨g, 0, none⟩ = some x0) (c1 : w.cell? ⟨g, 1, none⟩ = some x1) (c2 : w.cell? ⟨g, 2, none⟩ = some x2) : (execOp ρ o).run Tryz.prog w = .ok (.value (.agg #[x0, x1, x2])) w := by
 obtain ⟨_, op, _, _, _, _⟩ := o
 subst h
 simp [execOp, go_sem, hx, c0, c1, c2]
end
def awzT : List Row3 := [(some 45, none, .move (.tmp 3)), (some 46, none, .binOp .eql 31 (.tmp 45) (.const (.int .i64 0)) 31), (some 47, none, .move (.tmp 46)), (some 48, some (2, true), .move (.tmp 2)), (some 49, some (2, true), .binOp .eql 3 (.tmp 48) (.const (.int .i64 5)) 3), (some 50, none, .pick (.tmp 47) (.tmp 49) (.const (.bool false))), (some 51, none, .move (.tmp 50)), (some 52, some (6, true), .load 26 (.tmp 1)), (some 53, some (6, true), .call { callee := .value (.func 22), args := #[.const (.int .i64 75), .const (.int .i64 1)], argTypes := #[3, 3] }), (some 54, some (6, true), .call { callee := .value (.func 18), args := #[.tmp 52, .tmp 53], argTypes := #[26, 26] }), (some 55, none, .pick (.tmp 51) (.tmp 54) (.const (.bool false))), (some 56, none, .move (.tmp 55)), (some 57, some (11, true), .move (.tmp 6)), (some 58, some (11, true), .binOp .eql 31 (.tmp 57) (.const (.int .i64 0)) 31), (some 59, none, .pick (.tmp 56) (.tmp 58) (.const (.bool false))), (some 60, none, .move (.tmp 59)), (some 61, some (15, true), .move (.tmp 5)), (some 62, some (15, true), .binOp .eql 3 (.tmp 61) (.const (.int .i64 8)) 3), (some 63, none, .pick (.tmp 60) (.tmp 62) (.const (.bool false))), (some 64, none, .move (.tmp 63)), (some 65, some (19, true), .load 26 (.tmp 4)), (some 66, some (19, true), .call { callee := .value (.func 22), args := #[.const (.int .i64 375), .const (.int .i64 3)], argTypes := #[3, 3] }), (some 67, some (19, true), .call { callee := .value (.func 18), args := #[.tmp 65, .tmp 66], argTypes := #[26, 26] }), (some 68, none, .pick (.tmp 64) (.tmp 67) (.const (.bool false))), (some 69, none, .move (.tmp 68)), (some 70, some (24, true), .move (.tmp 9)), (some 71, some (24, true), .binOp .eql 31 (.tmp 70) (.const (.int .i64 4)) 31), (some 72, none, .pick (.tmp 69) (.tmp 71) (.const (.bool false))), (some 73, none, .move (.tmp 72)), (some 74, some (28, true), .move (.tmp 8)), (some 75, some (28, true), .binOp .eql 3 (.tmp 74) (.const (.int .i64 1)) 3), (some 76, none, .pick (.tmp 73) (.tmp 75) (.const (.bool false))), (some 77, none, .move (.tmp 76)), (some 78, some (32, true), .move (.tmp 12)), (some 79, some (32, true), .binOp .eql 31 (.tmp 78) (.const (.int .i64 2)) 31), (some 80, none, .pick (.tmp 77) (.tmp 79) (.const (.bool false))), (some 81, none, .move (.tmp 80)), (some 82, some (36, true), .move (.tmp 11)), (some 83, some (36, true), .binOp .eql 3 (.tmp 82) (.const (.int .i64 2)) 3), (some 84, none, .pick (.tmp 81) (.tmp 83) (.const (.bool false))), (some 85, none, .move (.tmp 84)), (some 86, some (40, true), .load 26 (.tmp 13)), (some 87, some (40, true), .call { callee := .value (.func 22), args := #[.const (.int .i64 3333333333), .const (.int .i64 10)], argTypes := #[3, 3] }), (some 88, some (40, true), .call { callee := .value (.func 18), args := #[.tmp 86, .tmp 87], argTypes := #[26, 26] }), (some 89, none, .pick (.tmp 85) (.tmp 88) (.const (.bool false))), (some 90, none, .move (.tmp 89)), (some 91, some (45, true), .call { callee := .value (.func 17), args := #[.const (.string ⟨#[45]⟩)], argTypes := #[9] }), (some 92, some (45, true), .indexAddr 22 (.tmp 91) (.const (.int .i64 0))), (some 93, some (45, true), .load 39 (.tmp 92)), (some 94, some (45, true), .call { callee := .value (.func 13), args := #[.tmp 93], argTypes := #[39] }), (some 95, none, .pick (.tmp 90) (.tmp 94) (.const (.bool false))), (some 96, none, .move (.tmp 95)), (some 97, some (51, true), .call { callee := .value (.func 17), args := #[.const (.string ⟨#[42]⟩)], argTypes := #[9] }), (some 98, some (51, true), .indexAddr 22 (.tmp 97) (.const (.int .i64 0))), (some 99, some (51, true), .load 39 (.tmp 98)), (some 100, some (51, true), .call { callee := .value (.func 13), args := #[.tmp 99], argTypes := #[39] }), (some 101, some (51, true), .unOp .not 4 (.tmp 100)), (some 102, none, .pick (.tmp 96) (.tmp 101) (.const (.bool false))), (some 0, none, .assign (.tmp 102))]
theorem awzRow : (opsAt Tryz.prog 8 6).toList.map row3 = awzT := by kernel_rfl
theorem awzSel : Region.noSelect (opsAt Tryz.prog 8 6) = true := by kernel_rfl
theorem awzDone : Region.ready .any (opsAt Tryz.prog 8 6) (upto (opsAt Tryz.prog 8 6).size (opsAt Tryz.prog 8 6).size []) = [] := by kernel_rfl
theorem awzstill0 : [(0, [], 0), (1, [], 1), (2, [], 2), (3, [], 3), (4, [], 4), (5, [], 5), (6, [], 6), (7, [], 7), (10, [], 10), (11, [], 11)].all (stillB (opsAt Tryz.prog 8 6)) = true := by kernel_rfl
theorem awzstill1 : [(12, [], 12), (13, [], 13), (14, [], 14), (15, [], 15), (16, [], 16), (17, [], 17), (18, [], 18), (19, [], 19), (20, [], 20), (23, [], 23)].all (stillB (opsAt Tryz.prog 8 6)) = true := by kernel_rfl
theorem awzstill2 : [(24, [], 24), (25, [], 25), (26, [], 26), (27, [], 27), (28, [], 28), (29, [], 29), (30, [], 30), (31, [], 31), (32, [], 32), (33, [], 33)].all (stillB (opsAt Tryz.prog 8 6)) = true := by kernel_rfl
theorem awzstill3 : [(34, [], 34), (35, [], 35), (36, [], 36), (37, [], 37), (38, [], 38), (39, [], 39), (40, [], 40), (41, [], 41), (44, [], 44), (45, [], 45)].all (stillB (opsAt Tryz.prog 8 6)) = true := by kernel_rfl
theorem awzstill4 : [(47, [], 47), (48, [], 48), (50, [], 50), (51, [], 51), (53, [], 53), (54, [], 54), (56, [], 56), (57, [], 57), (58, [], 58)].all (stillB (opsAt Tryz.prog 8 6)) = true := by kernel_rfl
theorem awzsole0 : [(8, [], 8), (9, [], 9), (21, [], 21), (22, [], 22), (42, [], 42), (43, [], 43), (46, [], 46), (49, [], 49), (52, [], 52), (55, [], 55)].all (soleB (opsAt Tryz.prog 8 6)) = true := by kernel_rfl
theorem awzR : Reg (opsAt Tryz.prog 8 6) awzT [(0, [], 0), (1, [], 1), (2, [], 2), (3, [], 3), (4, [], 4), (5, [], 5), (6, [], 6), (7, [], 7), (10, [], 10), (11, [], 11), (12, [], 12), (13, [], 13), (14, [], 14), (15, [], 15), (16, [], 16), (17, [], 17), (18, [], 18), (19, [], 19), (20, [], 20), (23, [], 23), (24, [], 24), (25, [], 25), (26, [], 26), (27, [], 27), (28, [], 28), (29, [], 29), (30, [], 30), (31, [], 31), (32, [], 32), (33, [], 33), (34, [], 34), (35, [], 35), (36, [], 36), (37, [], 37), (38, [], 38), (39, [], 39), (40, [], 40), (41, [], 41), (44, [], 44), (45, [], 45), (47, [], 47), (48, [], 48), (50, [], 50), (51, [], 51), (53, [], 53), (54, [], 54), (56, [], 56), (57, [], 57), (58, [], 58)] [(8, [], 8), (9, [], 9), (21, [], 21), (22, [], 22), (42, [], 42), (43, [], 43), (46, [], 46), (49, [], 49), (52, [], 52), (55, [], 55)] := ⟨awzRow, awzSel, (all_parts awzstill0 (all_parts awzstill1 (all_parts awzstill2 (all_parts awzstill3 (all_parts awzstill4 (fun k h => by cases h)))))), (all_parts awzsole0 (fun k h => by cases h)), awzDone⟩
theorem awake13 (EV : EVL Ok12) (QU : QUO Ok12) (ST : STS Ok12) : AWK13 Ok12 := by
  intro w hok
  have HOK := Lib.hid hok
  have E := Lib.hid (St.start w (l := []) (by intro q hq; cases hq))
  clear hok
  go_enter Tryz.func8, Tryz.ntmps8
  go_wp2_with fail
  refine (words_lit (okw12 HOK.out E.out.bel) (l := [49, 46, 53, 32, 43, 32, 50, 32, 42, 32, 51, 32, 85, 83, 68]) (by kernel_rfl) (by decide) wd_a).mono ?_; rintro e v1 ⟨B1, d1, rfl, hr, hb⟩
  replace E := Lib.hid (E.out.step hb); clear hb
  have R1 := Lib.hid hr
  clear hr
  go_wp2_with fail
  obtain ⟨r1, hr1⟩ : ∃ r, r = (75, 1, 5, 0) := ⟨((75 : Int), (1 : Nat), (5 : Int), (0 : Nat)), rfl⟩
  refine (EV 0 R1.out (Nat.le_refl _) (by decide) wz_a (okw12 HOK.out E.out.bel)).mono ?_; rintro e w1 ⟨A1, n1, c1, rfl, hnum, hb⟩
  rw [we_a, ← hr1] at hnum ⊢
  have P1 : r1.2.2.1 = 5 := by rw [hr1]
  have Q1 : ((r1.2.2.2 : Nat) : Int) = 0 := by rw [hr1]; rfl
  have H1 := Lib.hid hr1
  clear hr1 R1
  replace E := Lib.hid (E.out.push hb hnum); clear hb hnum
  go_wp2_with fail
  replace E := Lib.hid (E.out.lay (g := w1.heap.size) (x0 := .bool (ngB r1.1)) (x1 := .slice A1 n1 c1) (x2 := .int .i64 (r1.2.1 : Int)) (t := 26) rfl)
  obtain ⟨g1, hg1⟩ : ∃ g, w1.heap.size = g := ⟨_, rfl⟩
  rw [hg1] at E ⊢
  clear hg1
  generalize hV : World.alloc w1 _ = V1 at E ⊢
  clear hV
  refine (words_lit (okw12 HOK.out E.out.bel) (l := [45, 40, 49, 32, 45, 32, 52, 41, 32, 47, 32, 56]) (by kernel_rfl) (by decide) wd_b).mono ?_; rintro e v2 ⟨B2, d2, rfl, hr, hb⟩
  replace E := Lib.hid (E.out.step hb); clear hb
  have R2 := Lib.hid hr
  clear hr
  go_wp2_with fail
  obtain ⟨r2, hr2⟩ : ∃ r, r = (375, 3, 8, 0) := ⟨((375 : Int), (3 : Nat), (8 : Int), (0 : Nat)), rfl⟩
  refine (EV 0 R2.out (Nat.le_refl _) (by decide) wz_b (okw12 HOK.out E.out.bel)).mono ?_; rintro e w2 ⟨A2, n2, c2, rfl, hnum, hb⟩
  rw [we_b, ← hr2] at hnum ⊢
  have P2 : r2.2.2.1 = 8 := by rw [hr2]
  have Q2 : ((r2.2.2.2 : Nat) : Int) = 0 := by rw [hr2]; rfl
  have H2 := Lib.hid hr2
  clear hr2 R2
  replace E := Lib.hid (E.out.push hb hnum); clear hb hnum
  go_wp2_with fail
  replace E := Lib.hid (E.out.lay (g := w2.heap.size) (x0 := .bool (ngB r2.1)) (x1 := .slice A2 n2 c2) (x2 := .int .i64 (r2.2.1 : Int)) (t := 26) rfl)
  obtain ⟨g2, hg2⟩ : ∃ g, w2.heap.size = g := ⟨_, rfl⟩
  rw [hg2] at E ⊢
  clear hg2
  generalize hV : World.alloc w2 _ = V2 at E ⊢
  clear hV
  refine (words_lit (okw12 HOK.out E.out.bel) (l := [49, 32, 47, 32, 40, 50, 32, 45, 32, 50, 41]) (by kernel_rfl) (by decide) wd_c).mono ?_; rintro e v3 ⟨B3, d3, rfl, hr, hb⟩
  replace E := Lib.hid (E.out.step hb); clear hb
  have R3 := Lib.hid hr
  clear hr
  go_wp2_with fail
  obtain ⟨r3, hr3⟩ : ∃ r, r = (0, 0, 1, 4) := ⟨((0 : Int), (0 : Nat), (1 : Int), (4 : Nat)), rfl⟩
  refine (EV 0 R3.out (Nat.le_refl _) (by decide) wz_c (okw12 HOK.out E.out.bel)).mono ?_; rintro e w3 ⟨A3, n3, c3, rfl, hnum, hb⟩
  rw [we_c, ← hr3] at hnum ⊢
  have P3 : r3.2.2.1 = 1 := by rw [hr3]
  have Q3 : ((r3.2.2.2 : Nat) : Int) = 4 := by rw [hr3]; rfl
  have H3 := Lib.hid hr3
  clear hr3 R3
  replace E := Lib.hid (E.out.push hb hnum); clear hb hnum
  go_wp2_with fail
  replace E := Lib.hid (E.out.lay (g := w3.heap.size) (x0 := .bool (ngB r3.1)) (x1 := .slice A3 n3 c3) (x2 := .int .i64 (r3.2.1 : Int)) (t := 26) rfl)
  obtain ⟨g3, hg3⟩ : ∃ g, w3.heap.size = g := ⟨_, rfl⟩
  rw [hg3] at E ⊢
  clear hg3
  generalize hV : World.alloc w3 _ = V3 at E ⊢
  clear hV
  refine (words_lit (okw12 HOK.out E.out.bel) (l := [40, 49]) (by kernel_rfl) (by decide) wd_d).mono ?_; rintro e v4 ⟨B4, d4, rfl, hr, hb⟩
  replace E := Lib.hid (E.out.step hb); clear hb
  have R4 := Lib.hid hr
  clear hr
  go_wp2_with fail
  obtain ⟨r4, hr4⟩ : ∃ r, r = (0, 0, 2, 2) := ⟨((0 : Int), (0 : Nat), (2 : Int), (2 : Nat)), rfl⟩
  refine (EV 0 R4.out (Nat.le_refl _) (by decide) wz_d (okw12 HOK.out E.out.bel)).mono ?_; rintro e w4 ⟨A4, n4, c4, rfl, hnum, hb⟩
  rw [we_d, ← hr4] at hnum ⊢
  have P4 : r4.2.2.1 = 2 := by rw [hr4]
  have Q4 : ((r4.2.2.2 : Nat) : Int) = 2 := by rw [hr4]; rfl
  have H4 := Lib.hid hr4
  clear hr4 R4
  replace E := Lib.hid (E.out.push hb hnum); clear hb hnum
  go_wp2_with fail
  replace E := Lib.hid (E.out.lay (g := w4.heap.size) (x0 := .bool (ngB r4.1)) (x1 := .slice A4 n4 c4) (x2 := .int .i64 (r4.2.1 : Int)) (t := 26) rfl)
  obtain ⟨g4, hg4⟩ : ∃ g, w4.heap.size = g := ⟨_, rfl⟩
  rw [hg4] at E ⊢
  clear hg4
  generalize hV : World.alloc w4 _ = V4 at E ⊢
  clear hV
  obtain ⟨x5, hx5⟩ : ∃ x : Int, x = 1 := ⟨_, rfl⟩
  obtain ⟨s5, hs5⟩ : ∃ s : Nat, s = 0 := ⟨_, rfl⟩
  refine (mk13 (i := x5) (s := s5) _ hx5.symm (by rw [hs5]; rfl) (by rw [hx5]; decide) (by omega)).mono ?_; rintro e w5 ⟨A5, n5, c5, rfl, hnum, hb⟩
  replace E := Lib.hid (E.out.push hb hnum); clear hb hnum
  have HX5 := Lib.hid hx5
  have HS5 := Lib.hid hs5
  clear hx5 hs5
  go_wp2_with fail
  obtain ⟨x6, hx6⟩ : ∃ x : Int, x = 3 := ⟨_, rfl⟩
  obtain ⟨s6, hs6⟩ : ∃ s : Nat, s = 0 := ⟨_, rfl⟩
  refine (mk13 (i := x6) (s := s6) _ hx6.symm (by rw [hs6]; rfl) (by rw [hx6]; decide) (by omega)).mono ?_; rintro e w6 ⟨A6, n6, c6, rfl, hnum, hb⟩
  replace E := Lib.hid (E.out.push hb hnum); clear hb hnum
  have HX6 := Lib.hid hx6
  have HS6 := Lib.hid hs6
  clear hx6 hs6
  have hn5 : n5 ≤ 12 := by have h1 := (St.got (A := A5) (n := n5) (c := c5) (a := x5.natAbs) E (by simp)).len; have h2 : (dg x5.natAbs).length ≤ 1 := by rw [HX5.out]; exact dg_len_le (by decide)
                           omega
  have hn6 : n6 ≤ 12 := by have h1 := (St.got (A := A6) (n := n6) (c := c6) (a := x6.natAbs) E (by simp)).len; have h2 : (dg x6.natAbs).length ≤ 1 := by rw [HX6.out]; exact dg_len_le (by decide)
                           omega
  go_wp2_with fail
  obtain ⟨q, hq⟩ : ∃ q, quv x5 s5 x6 s6 = q := ⟨_, rfl⟩
  have hq2 : q = ((3333333333 : Int), (10 : Nat), (0 : Nat)) := by rw [← hq, HX5.out, HS5.out, HX6.out, HS6.out]; exact qu_13
  refine (QU (i := x5) (j := x6) (s := s5) (t := s6) (St.got (A := A5) (n := n5) (c := c5) (a := x5.natAbs) E (by simp)) (St.got (A := A6) (n := n6) (c := c6) (a := x6.natAbs) E (by simp)) hn5 hn6 (by have := HS5.out; omega) (by have := HS6.out; omega) (okw12 HOK.out E.out.bel)).mono ?_; rintro e w7 ⟨A7, n7, c7, rfl, hnum, hb⟩
  rw [hq] at hnum ⊢
  have HQ := Lib.hid hq2
  have Q7 : ((q.2.2 : Nat) : Int) = 0 := by rw [hq2]; rfl
  clear hq hq2
  replace E := Lib.hid (E.out.push hb hnum); clear hb hnum
  go_wp2_with fail
  replace E := Lib.hid (E.out.lay (g := w7.heap.size) (x0 := .bool (ngB q.1)) (x1 := .slice A7 n7 c7) (x2 := .int .i64 (q.2.1 : Int)) (t := 26) rfl)
  obtain ⟨g7, hg7⟩ : ∃ g, w7.heap.size = g := ⟨_, rfl⟩
  rw [hg7] at E ⊢
  clear hg7
  generalize hV : World.alloc w7 _ = V7 at E ⊢
  clear hV
  obtain ⟨xa, hxa⟩ : ∃ x : Int, x = 75 := ⟨_, rfl⟩
  obtain ⟨sa, hsa⟩ : ∃ s : Nat, s = 1 := ⟨_, rfl⟩
  have HXa := Lib.hid hxa
  have HSa := Lib.hid hsa
  clear hxa hsa
  obtain ⟨xb, hxb⟩ : ∃ x : Int, x = 375 := ⟨_, rfl⟩
  obtain ⟨sb, hsb⟩ : ∃ s : Nat, s = 3 := ⟨_, rfl⟩
  have HXb := Lib.hid hxb
  have HSb := Lib.hid hsb
  clear hxb hsb
  obtain ⟨xc, hxc⟩ : ∃ x : Int, x = 3333333333 := ⟨_, rfl⟩
  obtain ⟨sc, hsc⟩ : ∃ s : Nat, s = 10 := ⟨_, rfl⟩
  have HXc := Lib.hid hxc
  have HSc := Lib.hid hsc
  clear hxc hsc
  have Ka : Hid (alikeB r1.1 r1.2.1 xa sa = true) := alike_yes (by rw [H1.out, HXa.out]) (by rw [H1.out, HSa.out])
  have Kb : Hid (alikeB r2.1 r2.2.1 xb sb = true) := alike_yes (by rw [H2.out, HXb.out]) (by rw [H2.out, HSb.out])
  have Kc : Hid (alikeB q.1 q.2.1 xc sc = true) := alike_yes (by rw [HQ.out, HXc.out]) (by rw [HQ.out, HSc.out])
  have T45 : Hid (∀ W, Ok12 W → Calls Tryz.prog 13 #[.agg #[.int .i64 10, .string ⟨#[45]⟩, .int .i64 1, .int .i64 1]] W (Ret9 W (.bool true))) := fun W hW => by have h := ST (k := 10) (T := ⟨#[45]⟩) 1 1 hW; rw [show sta (10, ⟨#[45]⟩) = true from by kernel_rfl] at h; exact h
  have T42 : Hid (∀ W, Ok12 W → Calls Tryz.prog 13 #[.agg #[.int .i64 10, .string ⟨#[42]⟩, .int .i64 1, .int .i64 1]] W (Ret9 W (.bool false))) := fun W hW => by have h := ST (k := 10) (T := ⟨#[42]⟩) 1 1 hW; rw [show sta (10, ⟨#[42]⟩) = false from by kernel_rfl] at h; exact h
  clear EV QU ST P1 P2 P3 P4 Q1 Q2 Q3 Q4 Q7
  replace E := Lib.hid E.out.drew
  rename_i K hK
  refine line_start (ops := opsAt Tryz.prog 8 6) (S := fun v : World => v.cell? ⟨g1, 0, none⟩ = some (.bool (ngB r1.1)) ∧ v.cell? ⟨g1, 1, none⟩ = some (.slice A1 n1 c1) ∧ v.cell? ⟨g1, 2, none⟩ = some (.int .i64 (r1.2.1 : Int)) ∧ v.cell? ⟨g2, 0, none⟩ = some (.bool (ngB r2.1)) ∧ v.cell? ⟨g2, 1, none⟩ = some (.slice A2 n2 c2) ∧ v.cell? ⟨g2, 2, none⟩ = some (.int .i64 (r2.2.1 : Int)) ∧ v.cell? ⟨g7, 0, none⟩ = some (.bool (ngB q.1)) ∧ v.cell? ⟨g7, 1, none⟩ = some (.slice A7 n7 c7) ∧ v.cell? ⟨g7, 2, none⟩ = some (.int .i64 (q.2.1 : Int))) (by kernel_rfl) (by kernel_rfl) (⟨(St.ad r1.1 A1 n1 c1 r1.2.1 (g := g1) E (by simp)).c0, (St.ad r1.1 A1 n1 c1 r1.2.1 (g := g1) E (by simp)).c1, (St.ad r1.1 A1 n1 c1 r1.2.1 (g := g1) E (by simp)).c2, (St.ad r2.1 A2 n2 c2 r2.2.1 (g := g2) E (by simp)).c0, (St.ad r2.1 A2 n2 c2 r2.2.1 (g := g2) E (by simp)).c1, (St.ad r2.1 A2 n2 c2 r2.2.1 (g := g2) E (by simp)).c2, (St.ad q.1 A7 n7 c7 q.2.1 (g := g7) E (by simp)).c0, (St.ad q.1 A7 n7 c7 q.2.1 (g := g7) E (by simp)).c1, (St.ad q.1 A7 n7 c7 q.2.1 (g := g7) E (by simp)).c2⟩) ?_
  have hSw : (fun v : World => v.cell? ⟨g1, 0, none⟩ = some (.bool (ngB r1.1)) ∧ v.cell? ⟨g1, 1, none⟩ = some (.slice A1 n1 c1) ∧ v.cell? ⟨g1, 2, none⟩ = some (.int .i64 (r1.2.1 : Int)) ∧ v.cell? ⟨g2, 0, none⟩ = some (.bool (ngB r2.1)) ∧ v.cell? ⟨g2, 1, none⟩ = some (.slice A2 n2 c2) ∧ v.cell? ⟨g2, 2, none⟩ = some (.int .i64 (r2.2.1 : Int)) ∧ v.cell? ⟨g7, 0, none⟩ = some (.bool (ngB q.1)) ∧ v.cell? ⟨g7, 1, none⟩ = some (.slice A7 n7 c7) ∧ v.cell? ⟨g7, 2, none⟩ = some (.int .i64 (q.2.1 : Int))) V7.drew := ⟨(St.ad r1.1 A1 n1 c1 r1.2.1 (g := g1) E (by simp)).c0, (St.ad r1.1 A1 n1 c1 r1.2.1 (g := g1) E (by simp)).c1, (St.ad r1.1 A1 n1 c1 r1.2.1 (g := g1) E (by simp)).c2, (St.ad r2.1 A2 n2 c2 r2.2.1 (g := g2) E (by simp)).c0, (St.ad r2.1 A2 n2 c2 r2.2.1 (g := g2) E (by simp)).c1, (St.ad r2.1 A2 n2 c2 r2.2.1 (g := g2) E (by simp)).c2, (St.ad q.1 A7 n7 c7 q.2.1 (g := g7) E (by simp)).c0, (St.ad q.1 A7 n7 c7 q.2.1 (g := g7) E (by simp)).c1, (St.ad q.1 A7 n7 c7 q.2.1 (g := g7) E (by simp)).c2⟩
  generalize hA : Act.mk _ _ = a
  have ha : Fr 103 a [(1, .pointer (some ⟨g1, 0, none⟩)), (2, .int .i64 5), (3, .int .i64 0), (4, .pointer (some ⟨g2, 0, none⟩)), (5, .int .i64 8), (6, .int .i64 0), (8, .int .i64 1), (9, .int .i64 4), (11, .int .i64 2), (12, .int .i64 2), (13, .pointer (some ⟨g7, 0, none⟩))] := by rw [← hA]; exact ⟨rfl, rfl, by intro q hq; simp at hq; rcases hq with rfl | rfl | rfl | rfl | rfl | rfl | rfl | rfl | rfl | rfl | rfl <;> rfl⟩
  clear hA
  refine line_still awzR 0 0 [] 45 (.int .i64 0) [(1, .pointer (some ⟨g1, 0, none⟩)), (2, .int .i64 5), (4, .pointer (some ⟨g2, 0, none⟩)), (5, .int .i64 8), (6, .int .i64 0), (8, .int .i64 1), (9, .int .i64 4), (11, .int .i64 2), (12, .int .i64 2), (13, .pointer (some ⟨g7, 0, none⟩))] rfl (by decide) (by decide) (by decide) ha (fun o ho hg => y_of (wanted_none hg) (fun wx hS => e_move (.inl ho) (ha.ev (i := 3) (v := .int .i64 0) (by simp)))) (by simp) hSw ?_; intro a ha
  refine line_still awzR 1 1 [] 46 (.bool true) [(1, .pointer (some ⟨g1, 0, none⟩)), (2, .int .i64 5), (4, .pointer (some ⟨g2, 0, none⟩)), (5, .int .i64 8), (6, .int .i64 0), (8, .int .i64 1), (9, .int .i64 4), (11, .int .i64 2), (12, .int .i64 2), (13, .pointer (some ⟨g7, 0, none⟩))] rfl (by decide) (by decide) (by decide) ha (fun o ho hg => y_of (wanted_none hg) (fun wx hS => e_eq13 (by decide) ho (ha.ev (i := 45) (v := .int .i64 0) (by simp)) rfl)) (by simp) hSw ?_; intro a ha
  refine line_still awzR 2 2 [] 47 (.bool true) [(1, .pointer (some ⟨g1, 0, none⟩)), (2, .int .i64 5), (4, .pointer (some ⟨g2, 0, none⟩)), (5, .int .i64 8), (6, .int .i64 0), (8, .int .i64 1), (9, .int .i64 4), (11, .int .i64 2), (12, .int .i64 2), (13, .pointer (some ⟨g7, 0, none⟩))] rfl (by decide) (by decide) (by decide) ha (fun o ho hg => y_of (wanted_none hg) (fun wx hS => e_move (.inl ho) (ha.ev (i := 46) (v := .bool true) (by simp)))) (by simp) hSw ?_; intro a ha
  refine line_still awzR 3 3 [] 48 (.int .i64 5) [(47, .bool true), (1, .pointer (some ⟨g1, 0, none⟩)), (4, .pointer (some ⟨g2, 0, none⟩)), (5, .int .i64 8), (6, .int .i64 0), (8, .int .i64 1), (9, .int .i64 4), (11, .int .i64 2), (12, .int .i64 2), (13, .pointer (some ⟨g7, 0, none⟩))] rfl (by decide) (by decide) (by decide) ha (fun o ho hg => y_of (awzR.wanted hg rfl ha (d := 47) (by simp)) (fun wx hS => e_move (.inl ho) (ha.ev (i := 2) (v := .int .i64 5) (by simp)))) (by simp) hSw ?_; intro a ha
  refine line_still awzR 4 4 [] 49 (.bool true) [(47, .bool true), (1, .pointer (some ⟨g1, 0, none⟩)), (4, .pointer (some ⟨g2, 0, none⟩)), (5, .int .i64 8), (6, .int .i64 0), (8, .int .i64 1), (9, .int .i64 4), (11, .int .i64 2), (12, .int .i64 2), (13, .pointer (some ⟨g7, 0, none⟩))] rfl (by decide) (by decide) (by decide) ha (fun o ho hg => y_of (awzR.wanted hg rfl ha (d := 47) (by simp)) (fun wx hS => e_eq13 (by decide) ho (ha.ev (i := 48) (v := .int .i64 5) (by simp)) rfl)) (by simp) hSw ?_; intro a ha
  refine line_still awzR 5 5 [] 50 (.bool true) [(1, .pointer (some ⟨g1, 0, none⟩)), (4, .pointer (some ⟨g2, 0, none⟩)), (5, .int .i64 8), (6, .int .i64 0), (8, .int .i64 1), (9, .int .i64 4), (11, .int .i64 2), (12, .int .i64 2), (13, .pointer (some ⟨g7, 0, none⟩))] rfl (by decide) (by decide) (by decide) ha (fun o ho hg => y_of (wanted_none hg) (fun wx hS => e_pick ho (ha.ev (i := 47) (v := .bool true) (by simp)) (ha.ev (i := 49) (v := .bool true) (by simp)) rfl)) (by simp) hSw ?_; intro a ha
  refine line_still awzR 6 6 [] 51 (.bool true) [(1, .pointer (some ⟨g1, 0, none⟩)), (4, .pointer (some ⟨g2, 0, none⟩)), (5, .int .i64 8), (6, .int .i64 0), (8, .int .i64 1), (9, .int .i64 4), (11, .int .i64 2), (12, .int .i64 2), (13, .pointer (some ⟨g7, 0, none⟩))] rfl (by decide) (by decide) (by decide) ha (fun o ho hg => y_of (wanted_none hg) (fun wx hS => e_move (.inl ho) (ha.ev (i := 50) (v := .bool true) (by simp)))) (by simp) hSw ?_; intro a ha
  refine line_still awzR 7 7 [] 52 (.agg #[.bool (ngB r1.1), .slice A1 n1 c1, .int .i64 (r1.2.1 : Int)]) [(51, .bool true), (4, .pointer (some ⟨g2, 0, none⟩)), (5, .int .i64 8), (6, .int .i64 0), (8, .int .i64 1), (9, .int .i64 4), (11, .int .i64 2), (12, .int .i64 2), (13, .pointer (some ⟨g7, 0, none⟩))] rfl (by decide) (by decide) (by decide) ha (fun o ho hg => y_of (awzR.wanted hg rfl ha (d := 51) (by simp)) (fun wx hS => e_loadD13 ho (ha.ev (i := 1) (v := .pointer (some ⟨g1, 0, none⟩)) (by simp)) (hS.1) (hS.2.1) (hS.2.2.1))) (by simp) hSw ?_; intro a ha
  refine line_call awzR 8 8 [] 53 (args := #[.int .i64 75, .int .i64 1]) [(52, .agg #[.bool (ngB r1.1), .slice A1 n1 c1, .int .i64 (r1.2.1 : Int)]), (51, .bool true), (4, .pointer (some ⟨g2, 0, none⟩)), (5, .int .i64 8), (6, .int .i64 0), (8, .int .i64 1), (9, .int .i64 4), (11, .int .i64 2), (12, .int .i64 2), (13, .pointer (some ⟨g7, 0, none⟩))] rfl (by decide) (by decide) (by decide) ha (fun o ho hg => ⟨(awzR.wanted hg rfl ha (d := 51) (by simp)), e_call13 (by kernel_rfl) ho rfl (by simp only [List.map_toArray, List.map_cons, List.map_nil, ev_const])⟩) (by simp) ?_
  refine (mk13 (i := xa) (s := sa) _ HXa.out.symm (by rw [HSa.out]; rfl) (by rw [HXa.out]; decide) (by have := HSa.out; omega)).mono ?_; rintro e y1 ⟨Aa, na, ca, rfl, hnum, hb⟩
  replace E := Lib.hid (E.out.push hb hnum)
  clear hb hnum
  have hSw : (fun v : World => v.cell? ⟨g1, 0, none⟩ = some (.bool (ngB r1.1)) ∧ v.cell? ⟨g1, 1, none⟩ = some (.slice A1 n1 c1) ∧ v.cell? ⟨g1, 2, none⟩ = some (.int .i64 (r1.2.1 : Int)) ∧ v.cell? ⟨g2, 0, none⟩ = some (.bool (ngB r2.1)) ∧ v.cell? ⟨g2, 1, none⟩ = some (.slice A2 n2 c2) ∧ v.cell? ⟨g2, 2, none⟩ = some (.int .i64 (r2.2.1 : Int)) ∧ v.cell? ⟨g7, 0, none⟩ = some (.bool (ngB q.1)) ∧ v.cell? ⟨g7, 1, none⟩ = some (.slice A7 n7 c7) ∧ v.cell? ⟨g7, 2, none⟩ = some (.int .i64 (q.2.1 : Int))) y1 := ⟨(St.ad r1.1 A1 n1 c1 r1.2.1 (g := g1) E (by simp)).c0, (St.ad r1.1 A1 n1 c1 r1.2.1 (g := g1) E (by simp)).c1, (St.ad r1.1 A1 n1 c1 r1.2.1 (g := g1) E (by simp)).c2, (St.ad r2.1 A2 n2 c2 r2.2.1 (g := g2) E (by simp)).c0, (St.ad r2.1 A2 n2 c2 r2.2.1 (g := g2) E (by simp)).c1, (St.ad r2.1 A2 n2 c2 r2.2.1 (g := g2) E (by simp)).c2, (St.ad q.1 A7 n7 c7 q.2.1 (g := g7) E (by simp)).c0, (St.ad q.1 A7 n7 c7 q.2.1 (g := g7) E (by simp)).c1, (St.ad q.1 A7 n7 c7 q.2.1 (g := g7) E (by simp)).c2⟩
  refine ⟨_, rfl, hSw, ?_⟩; intro a ha
  refine line_call awzR 9 9 [] 54 (args := #[.agg #[.bool (ngB r1.1), .slice A1 n1 c1, .int .i64 (r1.2.1 : Int)], .agg #[.bool (ngB xa), .slice Aa na ca, .int .i64 (sa : Int)]]) [(51, .bool true), (4, .pointer (some ⟨g2, 0, none⟩)), (5, .int .i64 8), (6, .int .i64 0), (8, .int .i64 1), (9, .int .i64 4), (11, .int .i64 2), (12, .int .i64 2), (13, .pointer (some ⟨g7, 0, none⟩))] rfl (by decide) (by decide) (by decide) ha (fun o ho hg => ⟨(awzR.wanted hg rfl ha (d := 51) (by simp)), e_call13 (by kernel_rfl) ho rfl (by have q0 := ha.ev (i := 52) (v := .agg #[.bool (ngB r1.1), .slice A1 n1 c1, .int .i64 (r1.2.1 : Int)]) (by simp); have q1 := ha.ev (i := 53) (v := .agg #[.bool (ngB xa), .slice Aa na ca, .int .i64 (sa : Int)]) (by simp); simp only [List.map_toArray, List.map_cons, List.map_nil, ev_const, q0, q1])⟩) (by simp) ?_
  refine (alike_is5 (i := r1.1) (j := xa) (s := r1.2.1) (t := sa) (St.got (A := A1) (n := n1) (c := c1) (a := r1.1.natAbs) E (by simp)) (St.got (A := Aa) (n := na) (c := ca) (a := xa.natAbs) E (by simp)) (b := true) Ka.out).mono ?_; rintro e y2 ⟨rfl, hb⟩
  replace E := Lib.hid (E.out.step hb)
  clear hb
  have hSw : (fun v : World => v.cell? ⟨g1, 0, none⟩ = some (.bool (ngB r1.1)) ∧ v.cell? ⟨g1, 1, none⟩ = some (.slice A1 n1 c1) ∧ v.cell? ⟨g1, 2, none⟩ = some (.int .i64 (r1.2.1 : Int)) ∧ v.cell? ⟨g2, 0, none⟩ = some (.bool (ngB r2.1)) ∧ v.cell? ⟨g2, 1, none⟩ = some (.slice A2 n2 c2) ∧ v.cell? ⟨g2, 2, none⟩ = some (.int .i64 (r2.2.1 : Int)) ∧ v.cell? ⟨g7, 0, none⟩ = some (.bool (ngB q.1)) ∧ v.cell? ⟨g7, 1, none⟩ = some (.slice A7 n7 c7) ∧ v.cell? ⟨g7, 2, none⟩ = some (.int .i64 (q.2.1 : Int))) y2 := ⟨(St.ad r1.1 A1 n1 c1 r1.2.1 (g := g1) E (by simp)).c0, (St.ad r1.1 A1 n1 c1 r1.2.1 (g := g1) E (by simp)).c1, (St.ad r1.1 A1 n1 c1 r1.2.1 (g := g1) E (by simp)).c2, (St.ad r2.1 A2 n2 c2 r2.2.1 (g := g2) E (by simp)).c0, (St.ad r2.1 A2 n2 c2 r2.2.1 (g := g2) E (by simp)).c1, (St.ad r2.1 A2 n2 c2 r2.2.1 (g := g2) E (by simp)).c2, (St.ad q.1 A7 n7 c7 q.2.1 (g := g7) E (by simp)).c0, (St.ad q.1 A7 n7 c7 q.2.1 (g := g7) E (by simp)).c1, (St.ad q.1 A7 n7 c7 q.2.1 (g := g7) E (by simp)).c2⟩
  refine ⟨_, rfl, hSw, ?_⟩; intro a ha
  refine line_still awzR 10 10 [] 55 (.bool true) [(4, .pointer (some ⟨g2, 0, none⟩)), (5, .int .i64 8), (6, .int .i64 0), (8, .int .i64 1), (9, .int .i64 4), (11, .int .i64 2), (12, .int .i64 2), (13, .pointer (some ⟨g7, 0, none⟩))] rfl (by decide) (by decide) (by decide) ha (fun o ho hg => y_of (wanted_none hg) (fun wx hS => e_pick ho (ha.ev (i := 51) (v := .bool true) (by simp)) (ha.ev (i := 54) (v := .bool true) (by simp)) rfl)) (by simp) hSw ?_; intro a ha
  refine line_still awzR 11 11 [] 56 (.bool true) [(4, .pointer (some ⟨g2, 0, none⟩)), (5, .int .i64 8), (6, .int .i64 0), (8, .int .i64 1), (9, .int .i64 4), (11, .int .i64 2), (12, .int .i64 2), (13, .pointer (some ⟨g7, 0, none⟩))] rfl (by decide) (by decide) (by decide) ha (fun o ho hg => y_of (wanted_none hg) (fun wx hS => e_move (.inl ho) (ha.ev (i := 55) (v := .bool true) (by simp)))) (by simp) hSw ?_; intro a ha
  refine line_still awzR 12 12 [] 57 (.int .i64 0) [(56, .bool true), (4, .pointer (some ⟨g2, 0, none⟩)), (5, .int .i64 8), (8, .int .i64 1), (9, .int .i64 4), (11, .int .i64 2), (12, .int .i64 2), (13, .pointer (some ⟨g7, 0, none⟩))] rfl (by decide) (by decide) (by decide) ha (fun o ho hg => y_of (awzR.wanted hg rfl ha (d := 56) (by simp)) (fun wx hS => e_move (.inl ho) (ha.ev (i := 6) (v := .int .i64 0) (by simp)))) (by simp) hSw ?_; intro a ha
  refine line_still awzR 13 13 [] 58 (.bool true) [(56, .bool true), (4, .pointer (some ⟨g2, 0, none⟩)), (5, .int .i64 8), (8, .int .i64 1), (9, .int .i64 4), (11, .int .i64 2), (12, .int .i64 2), (13, .pointer (some ⟨g7, 0, none⟩))] rfl (by decide) (by decide) (by decide) ha (fun o ho hg => y_of (awzR.wanted hg rfl ha (d := 56) (by simp)) (fun wx hS => e_eq13 (by decide) ho (ha.ev (i := 57) (v := .int .i64 0) (by simp)) rfl)) (by simp) hSw ?_; intro a ha
  refine line_still awzR 14 14 [] 59 (.bool true) [(4, .pointer (some ⟨g2, 0, none⟩)), (5, .int .i64 8), (8, .int .i64 1), (9, .int .i64 4), (11, .int .i64 2), (12, .int .i64 2), (13, .pointer (some ⟨g7, 0, none⟩))] rfl (by decide) (by decide) (by decide) ha (fun o ho hg => y_of (wanted_none hg) (fun wx hS => e_pick ho (ha.ev (i := 56) (v := .bool true) (by simp)) (ha.ev (i := 58) (v := .bool true) (by simp)) rfl)) (by simp) hSw ?_; intro a ha
  refine line_still awzR 15 15 [] 60 (.bool true) [(4, .pointer (some ⟨g2, 0, none⟩)), (5, .int .i64 8), (8, .int .i64 1), (9, .int .i64 4), (11, .int .i64 2), (12, .int .i64 2), (13, .pointer (some ⟨g7, 0, none⟩))] rfl (by decide) (by decide) (by decide) ha (fun o ho hg => y_of (wanted_none hg) (fun wx hS => e_move (.inl ho) (ha.ev (i := 59) (v := .bool true) (by simp)))) (by simp) hSw ?_; intro a ha
  refine line_still awzR 16 16 [] 61 (.int .i64 8) [(60, .bool true), (4, .pointer (some ⟨g2, 0, none⟩)), (8, .int .i64 1), (9, .int .i64 4), (11, .int .i64 2), (12, .int .i64 2), (13, .pointer (some ⟨g7, 0, none⟩))] rfl (by decide) (by decide) (by decide) ha (fun o ho hg => y_of (awzR.wanted hg rfl ha (d := 60) (by simp)) (fun wx hS => e_move (.inl ho) (ha.ev (i := 5) (v := .int .i64 8) (by simp)))) (by simp) hSw ?_; intro a ha
  refine line_still awzR 17 17 [] 62 (.bool true) [(60, .bool true), (4, .pointer (some ⟨g2, 0, none⟩)), (8, .int .i64 1), (9, .int .i64 4), (11, .int .i64 2), (12, .int .i64 2), (13, .pointer (some ⟨g7, 0, none⟩))] rfl (by decide) (by decide) (by decide) ha (fun o ho hg => y_of (awzR.wanted hg rfl ha (d := 60) (by simp)) (fun wx hS => e_eq13 (by decide) ho (ha.ev (i := 61) (v := .int .i64 8) (by simp)) rfl)) (by simp) hSw ?_; intro a ha
  refine line_still awzR 18 18 [] 63 (.bool true) [(4, .pointer (some ⟨g2, 0, none⟩)), (8, .int .i64 1), (9, .int .i64 4), (11, .int .i64 2), (12, .int .i64 2), (13, .pointer (some ⟨g7, 0, none⟩))] rfl (by decide) (by decide) (by decide) ha (fun o ho hg => y_of (wanted_none hg) (fun wx hS => e_pick ho (ha.ev (i := 60) (v := .bool true) (by simp)) (ha.ev (i := 62) (v := .bool true) (by simp)) rfl)) (by simp) hSw ?_; intro a ha
  refine line_still awzR 19 19 [] 64 (.bool true) [(4, .pointer (some ⟨g2, 0, none⟩)), (8, .int .i64 1), (9, .int .i64 4), (11, .int .i64 2), (12, .int .i64 2), (13, .pointer (some ⟨g7, 0, none⟩))] rfl (by decide) (by decide) (by decide) ha (fun o ho hg => y_of (wanted_none hg) (fun wx hS => e_move (.inl ho) (ha.ev (i := 63) (v := .bool true) (by simp)))) (by simp) hSw ?_; intro a ha
  refine line_still awzR 20 20 [] 65 (.agg #[.bool (ngB r2.1), .slice A2 n2 c2, .int .i64 (r2.2.1 : Int)]) [(64, .bool true), (8, .int .i64 1), (9, .int .i64 4), (11, .int .i64 2), (12, .int .i64 2), (13, .pointer (some ⟨g7, 0, none⟩))] rfl (by decide) (by decide) (by decide) ha (fun o ho hg => y_of (awzR.wanted hg rfl ha (d := 64) (by simp)) (fun wx hS => e_loadD13 ho (ha.ev (i := 4) (v := .pointer (some ⟨g2, 0, none⟩)) (by simp)) (hS.2.2.2.1) (hS.2.2.2.2.1) (hS.2.2.2.2.2.1))) (by simp) hSw ?_; intro a ha
  refine line_call awzR 21 21 [] 66 (args := #[.int .i64 375, .int .i64 3]) [(65, .agg #[.bool (ngB r2.1), .slice A2 n2 c2, .int .i64 (r2.2.1 : Int)]), (64, .bool true), (8, .int .i64 1), (9, .int .i64 4), (11, .int .i64 2), (12, .int .i64 2), (13, .pointer (some ⟨g7, 0, none⟩))] rfl (by decide) (by decide) (by decide) ha (fun o ho hg => ⟨(awzR.wanted hg rfl ha (d := 64) (by simp)), e_call13 (by kernel_rfl) ho rfl (by simp only [List.map_toArray, List.map_cons, List.map_nil, ev_const])⟩) (by simp) ?_
  refine (mk13 (i := xb) (s := sb) _ HXb.out.symm (by rw [HSb.out]; rfl) (by rw [HXb.out]; decide) (by have := HSb.out; omega)).mono ?_; rintro e y3 ⟨Ab, nb, cb, rfl, hnum, hb⟩
  replace E := Lib.hid (E.out.push hb hnum)
  clear hb hnum
  have hSw : (fun v : World => v.cell? ⟨g1, 0, none⟩ = some (.bool (ngB r1.1)) ∧ v.cell? ⟨g1, 1, none⟩ = some (.slice A1 n1 c1) ∧ v.cell? ⟨g1, 2, none⟩ = some (.int .i64 (r1.2.1 : Int)) ∧ v.cell? ⟨g2, 0, none⟩ = some (.bool (ngB r2.1)) ∧ v.cell? ⟨g2, 1, none⟩ = some (.slice A2 n2 c2) ∧ v.cell? ⟨g2, 2, none⟩ = some (.int .i64 (r2.2.1 : Int)) ∧ v.cell? ⟨g7, 0, none⟩ = some (.bool (ngB q.1)) ∧ v.cell? ⟨g7, 1, none⟩ = some (.slice A7 n7 c7) ∧ v.cell? ⟨g7, 2, none⟩ = some (.int .i64 (q.2.1 : Int))) y3 := ⟨(St.ad r1.1 A1 n1 c1 r1.2.1 (g := g1) E (by simp)).c0, (St.ad r1.1 A1 n1 c1 r1.2.1 (g := g1) E (by simp)).c1, (St.ad r1.1 A1 n1 c1 r1.2.1 (g := g1) E (by simp)).c2, (St.ad r2.1 A2 n2 c2 r2.2.1 (g := g2) E (by simp)).c0, (St.ad r2.1 A2 n2 c2 r2.2.1 (g := g2) E (by simp)).c1, (St.ad r2.1 A2 n2 c2 r2.2.1 (g := g2) E (by simp)).c2, (St.ad q.1 A7 n7 c7 q.2.1 (g := g7) E (by simp)).c0, (St.ad q.1 A7 n7 c7 q.2.1 (g := g7) E (by simp)).c1, (St.ad q.1 A7 n7 c7 q.2.1 (g := g7) E (by simp)).c2⟩
  refine ⟨_, rfl, hSw, ?_⟩; intro a ha
  refine line_call awzR 22 22 [] 67 (args := #[.agg #[.bool (ngB r2.1), .slice A2 n2 c2, .int .i64 (r2.2.1 : Int)], .agg #[.bool (ngB xb), .slice Ab nb cb, .int .i64 (sb : Int)]]) [(64, .bool true), (8, .int .i64 1), (9, .int .i64 4), (11, .int .i64 2), (12, .int .i64 2), (13, .pointer (some ⟨g7, 0, none⟩))] rfl (by decide) (by decide) (by decide) ha (fun o ho hg => ⟨(awzR.wanted hg rfl ha (d := 64) (by simp)), e_call13 (by kernel_rfl) ho rfl (by have q0 := ha.ev (i := 65) (v := .agg #[.bool (ngB r2.1), .slice A2 n2 c2, .int .i64 (r2.2.1 : Int)]) (by simp); have q1 := ha.ev (i := 66) (v := .agg #[.bool (ngB xb), .slice Ab nb cb, .int .i64 (sb : Int)]) (by simp); simp only [List.map_toArray, List.map_cons, List.map_nil, ev_const, q0, q1])⟩) (by simp) ?_
  refine (alike_is5 (i := r2.1) (j := xb) (s := r2.2.1) (t := sb) (St.got (A := A2) (n := n2) (c := c2) (a := r2.1.natAbs) E (by simp)) (St.got (A := Ab) (n := nb) (c := cb) (a := xb.natAbs) E (by simp)) (b := true) Kb.out).mono ?_; rintro e y4 ⟨rfl, hb⟩
  replace E := Lib.hid (E.out.step hb)
  clear hb
  have hSw : (fun v : World => v.cell? ⟨g1, 0, none⟩ = some (.bool (ngB r1.1)) ∧ v.cell? ⟨g1, 1, none⟩ = some (.slice A1 n1 c1) ∧ v.cell? ⟨g1, 2, none⟩ = some (.int .i64 (r1.2.1 : Int)) ∧ v.cell? ⟨g2, 0, none⟩ = some (.bool (ngB r2.1)) ∧ v.cell? ⟨g2, 1, none⟩ = some (.slice A2 n2 c2) ∧ v.cell? ⟨g2, 2, none⟩ = some (.int .i64 (r2.2.1 : Int)) ∧ v.cell? ⟨g7, 0, none⟩ = some (.bool (ngB q.1)) ∧ v.cell? ⟨g7, 1, none⟩ = some (.slice A7 n7 c7) ∧ v.cell? ⟨g7, 2, none⟩ = some (.int .i64 (q.2.1 : Int))) y4 := ⟨(St.ad r1.1 A1 n1 c1 r1.2.1 (g := g1) E (by simp)).c0, (St.ad r1.1 A1 n1 c1 r1.2.1 (g := g1) E (by simp)).c1, (St.ad r1.1 A1 n1 c1 r1.2.1 (g := g1) E (by simp)).c2, (St.ad r2.1 A2 n2 c2 r2.2.1 (g := g2) E (by simp)).c0, (St.ad r2.1 A2 n2 c2 r2.2.1 (g := g2) E (by simp)).c1, (St.ad r2.1 A2 n2 c2 r2.2.1 (g := g2) E (by simp)).c2, (St.ad q.1 A7 n7 c7 q.2.1 (g := g7) E (by simp)).c0, (St.ad q.1 A7 n7 c7 q.2.1 (g := g7) E (by simp)).c1, (St.ad q.1 A7 n7 c7 q.2.1 (g := g7) E (by simp)).c2⟩
  refine ⟨_, rfl, hSw, ?_⟩; intro a ha
  refine line_still awzR 23 23 [] 68 (.bool true) [(8, .int .i64 1), (9, .int .i64 4), (11, .int .i64 2), (12, .int .i64 2), (13, .pointer (some ⟨g7, 0, none⟩))] rfl (by decide) (by decide) (by decide) ha (fun o ho hg => y_of (wanted_none hg) (fun wx hS => e_pick ho (ha.ev (i := 64) (v := .bool true) (by simp)) (ha.ev (i := 67) (v := .bool true) (by simp)) rfl)) (by simp) hSw ?_; intro a ha
  refine line_still awzR 24 24 [] 69 (.bool true) [(8, .int .i64 1), (9, .int .i64 4), (11, .int .i64 2), (12, .int .i64 2), (13, .pointer (some ⟨g7, 0, none⟩))] rfl (by decide) (by decide) (by decide) ha (fun o ho hg => y_of (wanted_none hg) (fun wx hS => e_move (.inl ho) (ha.ev (i := 68) (v := .bool true) (by simp)))) (by simp) hSw ?_; intro a ha
  refine line_still awzR 25 25 [] 70 (.int .i64 4) [(69, .bool true), (8, .int .i64 1), (11, .int .i64 2), (12, .int .i64 2), (13, .pointer (some ⟨g7, 0, none⟩))] rfl (by decide) (by decide) (by decide) ha (fun o ho hg => y_of (awzR.wanted hg rfl ha (d := 69) (by simp)) (fun wx hS => e_move (.inl ho) (ha.ev (i := 9) (v := .int .i64 4) (by simp)))) (by simp) hSw ?_; intro a ha
  refine line_still awzR 26 26 [] 71 (.bool true) [(69, .bool true), (8, .int .i64 1), (11, .int .i64 2), (12, .int .i64 2), (13, .pointer (some ⟨g7, 0, none⟩))] rfl (by decide) (by decide) (by decide) ha (fun o ho hg => y_of (awzR.wanted hg rfl ha (d := 69) (by simp)) (fun wx hS => e_eq13 (by decide) ho (ha.ev (i := 70) (v := .int .i64 4) (by simp)) rfl)) (by simp) hSw ?_; intro a ha
  refine line_still awzR 27 27 [] 72 (.bool true) [(8, .int .i64 1), (11, .int .i64 2), (12, .int .i64 2), (13, .pointer (some ⟨g7, 0, none⟩))] rfl (by decide) (by decide) (by decide) ha (fun o ho hg => y_of (wanted_none hg) (fun wx hS => e_pick ho (ha.ev (i := 69) (v := .bool true) (by simp)) (ha.ev (i := 71) (v := .bool true) (by simp)) rfl)) (by simp) hSw ?_; intro a ha
  refine line_still awzR 28 28 [] 73 (.bool true) [(8, .int .i64 1), (11, .int .i64 2), (12, .int .i64 2), (13, .pointer (some ⟨g7, 0, none⟩))] rfl (by decide) (by decide) (by decide) ha (fun o ho hg => y_of (wanted_none hg) (fun wx hS => e_move (.inl ho) (ha.ev (i := 72) (v := .bool true) (by simp)))) (by simp) hSw ?_; intro a ha
  refine line_still awzR 29 29 [] 74 (.int .i64 1) [(73, .bool true), (11, .int .i64 2), (12, .int .i64 2), (13, .pointer (some ⟨g7, 0, none⟩))] rfl (by decide) (by decide) (by decide) ha (fun o ho hg => y_of (awzR.wanted hg rfl ha (d := 73) (by simp)) (fun wx hS => e_move (.inl ho) (ha.ev (i := 8) (v := .int .i64 1) (by simp)))) (by simp) hSw ?_; intro a ha
  refine line_still awzR 30 30 [] 75 (.bool true) [(73, .bool true), (11, .int .i64 2), (12, .int .i64 2), (13, .pointer (some ⟨g7, 0, none⟩))] rfl (by decide) (by decide) (by decide) ha (fun o ho hg => y_of (awzR.wanted hg rfl ha (d := 73) (by simp)) (fun wx hS => e_eq13 (by decide) ho (ha.ev (i := 74) (v := .int .i64 1) (by simp)) rfl)) (by simp) hSw ?_; intro a ha
  refine line_still awzR 31 31 [] 76 (.bool true) [(11, .int .i64 2), (12, .int .i64 2), (13, .pointer (some ⟨g7, 0, none⟩))] rfl (by decide) (by decide) (by decide) ha (fun o ho hg => y_of (wanted_none hg) (fun wx hS => e_pick ho (ha.ev (i := 73) (v := .bool true) (by simp)) (ha.ev (i := 75) (v := .bool true) (by simp)) rfl)) (by simp) hSw ?_; intro a ha
  refine line_still awzR 32 32 [] 77 (.bool true) [(11, .int .i64 2), (12, .int .i64 2), (13, .pointer (some ⟨g7, 0, none⟩))] rfl (by decide) (by decide) (by decide) ha (fun o ho hg => y_of (wanted_none hg) (fun wx hS => e_move (.inl ho) (ha.ev (i := 76) (v := .bool true) (by simp)))) (by simp) hSw ?_; intro a ha
  refine line_still awzR 33 33 [] 78 (.int .i64 2) [(77, .bool true), (11, .int .i64 2), (13, .pointer (some ⟨g7, 0, none⟩))] rfl (by decide) (by decide) (by decide) ha (fun o ho hg => y_of (awzR.wanted hg rfl ha (d := 77) (by simp)) (fun wx hS => e_move (.inl ho) (ha.ev (i := 12) (v := .int .i64 2) (by simp)))) (by simp) hSw ?_; intro a ha
  refine line_still awzR 34 34 [] 79 (.bool true) [(77, .bool true), (11, .int .i64 2), (13, .pointer (some ⟨g7, 0, none⟩))] rfl (by decide) (by decide) (by decide) ha (fun o ho hg => y_of (awzR.wanted hg rfl ha (d := 77) (by simp)) (fun wx hS => e_eq13 (by decide) ho (ha.ev (i := 78) (v := .int .i64 2) (by simp)) rfl)) (by simp) hSw ?_; intro a ha
  refine line_still awzR 35 35 [] 80 (.bool true) [(11, .int .i64 2), (13, .pointer (some ⟨g7, 0, none⟩))] rfl (by decide) (by decide) (by decide) ha (fun o ho hg => y_of (wanted_none hg) (fun wx hS => e_pick ho (ha.ev (i := 77) (v := .bool true) (by simp)) (ha.ev (i := 79) (v := .bool true) (by simp)) rfl)) (by simp) hSw ?_; intro a ha
  refine line_still awzR 36 36 [] 81 (.bool true) [(11, .int .i64 2), (13, .pointer (some ⟨g7, 0, none⟩))] rfl (by decide) (by decide) (by decide) ha (fun o ho hg => y_of (wanted_none hg) (fun wx hS => e_move (.inl ho) (ha.ev (i := 80) (v := .bool true) (by simp)))) (by simp) hSw ?_; intro a ha
  refine line_still awzR 37 37 [] 82 (.int .i64 2) [(81, .bool true), (13, .pointer (some ⟨g7, 0, none⟩))] rfl (by decide) (by decide) (by decide) ha (fun o ho hg => y_of (awzR.wanted hg rfl ha (d := 81) (by simp)) (fun wx hS => e_move (.inl ho) (ha.ev (i := 11) (v := .int .i64 2) (by simp)))) (by simp) hSw ?_; intro a ha
  refine line_still awzR 38 38 [] 83 (.bool true) [(81, .bool true), (13, .pointer (some ⟨g7, 0, none⟩))] rfl (by decide) (by decide) (by decide) ha (fun o ho hg => y_of (awzR.wanted hg rfl ha (d := 81) (by simp)) (fun wx hS => e_eq13 (by decide) ho (ha.ev (i := 82) (v := .int .i64 2) (by simp)) rfl)) (by simp) hSw ?_; intro a ha
  refine line_still awzR 39 39 [] 84 (.bool true) [(13, .pointer (some ⟨g7, 0, none⟩))] rfl (by decide) (by decide) (by decide) ha (fun o ho hg => y_of (wanted_none hg) (fun wx hS => e_pick ho (ha.ev (i := 81) (v := .bool true) (by simp)) (ha.ev (i := 83) (v := .bool true) (by simp)) rfl)) (by simp) hSw ?_; intro a ha
  refine line_still awzR 40 40 [] 85 (.bool true) [(13, .pointer (some ⟨g7, 0, none⟩))] rfl (by decide) (by decide) (by decide) ha (fun o ho hg => y_of (wanted_none hg) (fun wx hS => e_move (.inl ho) (ha.ev (i := 84) (v := .bool true) (by simp)))) (by simp) hSw ?_; intro a ha
  refine line_still awzR 41 41 [] 86 (.agg #[.bool (ngB q.1), .slice A7 n7 c7, .int .i64 (q.2.1 : Int)]) [(85, .bool true)] rfl (by decide) (by decide) (by decide) ha (fun o ho hg => y_of (awzR.wanted hg rfl ha (d := 85) (by simp)) (fun wx hS => e_loadD13 ho (ha.ev (i := 13) (v := .pointer (some ⟨g7, 0, none⟩)) (by simp)) (hS.2.2.2.2.2.2.1) (hS.2.2.2.2.2.2.2.1) (hS.2.2.2.2.2.2.2.2))) (by simp) hSw ?_; intro a ha
  refine line_call awzR 42 42 [] 87 (args := #[.int .i64 3333333333, .int .i64 10]) [(86, .agg #[.bool (ngB q.1), .slice A7 n7 c7, .int .i64 (q.2.1 : Int)]), (85, .bool true)] rfl (by decide) (by decide) (by decide) ha (fun o ho hg => ⟨(awzR.wanted hg rfl ha (d := 85) (by simp)), e_call13 (by kernel_rfl) ho rfl (by simp only [List.map_toArray, List.map_cons, List.map_nil, ev_const])⟩) (by simp) ?_
  refine (mk13 (i := xc) (s := sc) _ HXc.out.symm (by rw [HSc.out]; rfl) (by rw [HXc.out]; decide) (by have := HSc.out; omega)).mono ?_; rintro e y5 ⟨Ac, nc, cc, rfl, hnum, hb⟩
  replace E := Lib.hid (E.out.push hb hnum)
  clear hb hnum
  have hSw : (fun v : World => v.cell? ⟨g1, 0, none⟩ = some (.bool (ngB r1.1)) ∧ v.cell? ⟨g1, 1, none⟩ = some (.slice A1 n1 c1) ∧ v.cell? ⟨g1, 2, none⟩ = some (.int .i64 (r1.2.1 : Int)) ∧ v.cell? ⟨g2, 0, none⟩ = some (.bool (ngB r2.1)) ∧ v.cell? ⟨g2, 1, none⟩ = some (.slice A2 n2 c2) ∧ v.cell? ⟨g2, 2, none⟩ = some (.int .i64 (r2.2.1 : Int)) ∧ v.cell? ⟨g7, 0, none⟩ = some (.bool (ngB q.1)) ∧ v.cell? ⟨g7, 1, none⟩ = some (.slice A7 n7 c7) ∧ v.cell? ⟨g7, 2, none⟩ = some (.int .i64 (q.2.1 : Int))) y5 := ⟨(St.ad r1.1 A1 n1 c1 r1.2.1 (g := g1) E (by simp)).c0, (St.ad r1.1 A1 n1 c1 r1.2.1 (g := g1) E (by simp)).c1, (St.ad r1.1 A1 n1 c1 r1.2.1 (g := g1) E (by simp)).c2, (St.ad r2.1 A2 n2 c2 r2.2.1 (g := g2) E (by simp)).c0, (St.ad r2.1 A2 n2 c2 r2.2.1 (g := g2) E (by simp)).c1, (St.ad r2.1 A2 n2 c2 r2.2.1 (g := g2) E (by simp)).c2, (St.ad q.1 A7 n7 c7 q.2.1 (g := g7) E (by simp)).c0, (St.ad q.1 A7 n7 c7 q.2.1 (g := g7) E (by simp)).c1, (St.ad q.1 A7 n7 c7 q.2.1 (g := g7) E (by simp)).c2⟩
  refine ⟨_, rfl, hSw, ?_⟩; intro a ha
  refine line_call awzR 43 43 [] 88 (args := #[.agg #[.bool (ngB q.1), .slice A7 n7 c7, .int .i64 (q.2.1 : Int)], .agg #[.bool (ngB xc), .slice Ac nc cc, .int .i64 (sc : Int)]]) [(85, .bool true)] rfl (by decide) (by decide) (by decide) ha (fun o ho hg => ⟨(awzR.wanted hg rfl ha (d := 85) (by simp)), e_call13 (by kernel_rfl) ho rfl (by have q0 := ha.ev (i := 86) (v := .agg #[.bool (ngB q.1), .slice A7 n7 c7, .int .i64 (q.2.1 : Int)]) (by simp); have q1 := ha.ev (i := 87) (v := .agg #[.bool (ngB xc), .slice Ac nc cc, .int .i64 (sc : Int)]) (by simp); simp only [List.map_toArray, List.map_cons, List.map_nil, ev_const, q0, q1])⟩) (by simp) ?_
  refine (alike_is5 (i := q.1) (j := xc) (s := q.2.1) (t := sc) (St.got (A := A7) (n := n7) (c := c7) (a := q.1.natAbs) E (by simp)) (St.got (A := Ac) (n := nc) (c := cc) (a := xc.natAbs) E (by simp)) (b := true) Kc.out).mono ?_; rintro e y6 ⟨rfl, hb⟩
  replace E := Lib.hid (E.out.step hb)
  clear hb
  have hSw : (fun v : World => v.cell? ⟨g1, 0, none⟩ = some (.bool (ngB r1.1)) ∧ v.cell? ⟨g1, 1, none⟩ = some (.slice A1 n1 c1) ∧ v.cell? ⟨g1, 2, none⟩ = some (.int .i64 (r1.2.1 : Int)) ∧ v.cell? ⟨g2, 0, none⟩ = some (.bool (ngB r2.1)) ∧ v.cell? ⟨g2, 1, none⟩ = some (.slice A2 n2 c2) ∧ v.cell? ⟨g2, 2, none⟩ = some (.int .i64 (r2.2.1 : Int)) ∧ v.cell? ⟨g7, 0, none⟩ = some (.bool (ngB q.1)) ∧ v.cell? ⟨g7, 1, none⟩ = some (.slice A7 n7 c7) ∧ v.cell? ⟨g7, 2, none⟩ = some (.int .i64 (q.2.1 : Int))) y6 := ⟨(St.ad r1.1 A1 n1 c1 r1.2.1 (g := g1) E (by simp)).c0, (St.ad r1.1 A1 n1 c1 r1.2.1 (g := g1) E (by simp)).c1, (St.ad r1.1 A1 n1 c1 r1.2.1 (g := g1) E (by simp)).c2, (St.ad r2.1 A2 n2 c2 r2.2.1 (g := g2) E (by simp)).c0, (St.ad r2.1 A2 n2 c2 r2.2.1 (g := g2) E (by simp)).c1, (St.ad r2.1 A2 n2 c2 r2.2.1 (g := g2) E (by simp)).c2, (St.ad q.1 A7 n7 c7 q.2.1 (g := g7) E (by simp)).c0, (St.ad q.1 A7 n7 c7 q.2.1 (g := g7) E (by simp)).c1, (St.ad q.1 A7 n7 c7 q.2.1 (g := g7) E (by simp)).c2⟩
  refine ⟨_, rfl, hSw, ?_⟩; intro a ha
  refine line_still awzR 44 44 [] 89 (.bool true) [] rfl (by decide) (by decide) (by decide) ha (fun o ho hg => y_of (wanted_none hg) (fun wx hS => e_pick ho (ha.ev (i := 85) (v := .bool true) (by simp)) (ha.ev (i := 88) (v := .bool true) (by simp)) rfl)) (by simp) hSw ?_; intro a ha
  refine line_still awzR 45 45 [] 90 (.bool true) [] rfl (by decide) (by decide) (by decide) ha (fun o ho hg => y_of (wanted_none hg) (fun wx hS => e_move (.inl ho) (ha.ev (i := 89) (v := .bool true) (by simp)))) (by simp) hSw ?_; intro a ha
  refine line_call awzR 46 46 [] 91 (args := #[.string ⟨#[45]⟩]) [(90, .bool true)] rfl (by decide) (by decide) (by decide) ha (fun o ho hg => ⟨(awzR.wanted hg rfl ha (d := 90) (by simp)), e_call13 (by kernel_rfl) ho rfl (by simp only [List.map_toArray, List.map_cons, List.map_nil, ev_const])⟩) (by simp) ?_
  refine (words_lit (okw12 HOK.out E.out.bel) (l := [45]) (by kernel_rfl) (by decide) wd_e).mono ?_; rintro e y7 ⟨B8, d8, rfl, hr, hb⟩
  obtain ⟨q8, u8, rfl, g5, g6, g9, g8, a0, a1, a2, a3⟩ := hr.at_ (k := 0) (t := (10, ⟨#[45]⟩, 1, 1)) rfl
  replace E := Lib.hid (E.out.step hb)
  have HQ8 : q8 < y7.heap.size := g9
  have HC8 : Hid (y7.cell? ⟨q8, u8 + 0 * 4, none⟩ = some (.int .i64 10) ∧ y7.cell? ⟨q8, u8 + 0 * 4 + 1, none⟩ = some (.string ⟨#[45]⟩) ∧ y7.cell? ⟨q8, u8 + 0 * 4 + 2, none⟩ = some (.int .i64 1) ∧ y7.cell? ⟨q8, u8 + 0 * 4 + 3, none⟩ = some (.int .i64 1)) := ⟨a0, a1, a2, a3⟩
  clear hb hr g5 g6 g9 g8 a0 a1 a2 a3
  have hSw : (fun v : World => v.cell? ⟨g1, 0, none⟩ = some (.bool (ngB r1.1)) ∧ v.cell? ⟨g1, 1, none⟩ = some (.slice A1 n1 c1) ∧ v.cell? ⟨g1, 2, none⟩ = some (.int .i64 (r1.2.1 : Int)) ∧ v.cell? ⟨g2, 0, none⟩ = some (.bool (ngB r2.1)) ∧ v.cell? ⟨g2, 1, none⟩ = some (.slice A2 n2 c2) ∧ v.cell? ⟨g2, 2, none⟩ = some (.int .i64 (r2.2.1 : Int)) ∧ v.cell? ⟨g7, 0, none⟩ = some (.bool (ngB q.1)) ∧ v.cell? ⟨g7, 1, none⟩ = some (.slice A7 n7 c7) ∧ v.cell? ⟨g7, 2, none⟩ = some (.int .i64 (q.2.1 : Int))) y7 := ⟨(St.ad r1.1 A1 n1 c1 r1.2.1 (g := g1) E (by simp)).c0, (St.ad r1.1 A1 n1 c1 r1.2.1 (g := g1) E (by simp)).c1, (St.ad r1.1 A1 n1 c1 r1.2.1 (g := g1) E (by simp)).c2, (St.ad r2.1 A2 n2 c2 r2.2.1 (g := g2) E (by simp)).c0, (St.ad r2.1 A2 n2 c2 r2.2.1 (g := g2) E (by simp)).c1, (St.ad r2.1 A2 n2 c2 r2.2.1 (g := g2) E (by simp)).c2, (St.ad q.1 A7 n7 c7 q.2.1 (g := g7) E (by simp)).c0, (St.ad q.1 A7 n7 c7 q.2.1 (g := g7) E (by simp)).c1, (St.ad q.1 A7 n7 c7 q.2.1 (g := g7) E (by simp)).c2⟩
  refine ⟨_, rfl, hSw, ?_⟩; intro a ha
  refine line_more (S2 := fun v : World => (v.cell? ⟨g1, 0, none⟩ = some (.bool (ngB r1.1)) ∧ v.cell? ⟨g1, 1, none⟩ = some (.slice A1 n1 c1) ∧ v.cell? ⟨g1, 2, none⟩ = some (.int .i64 (r1.2.1 : Int)) ∧ v.cell? ⟨g2, 0, none⟩ = some (.bool (ngB r2.1)) ∧ v.cell? ⟨g2, 1, none⟩ = some (.slice A2 n2 c2) ∧ v.cell? ⟨g2, 2, none⟩ = some (.int .i64 (r2.2.1 : Int)) ∧ v.cell? ⟨g7, 0, none⟩ = some (.bool (ngB q.1)) ∧ v.cell? ⟨g7, 1, none⟩ = some (.slice A7 n7 c7) ∧ v.cell? ⟨g7, 2, none⟩ = some (.int .i64 (q.2.1 : Int))) ∧ v.cell? ⟨q8, u8 + 0 * 4, none⟩ = some (.int .i64 10) ∧ v.cell? ⟨q8, u8 + 0 * 4 + 1, none⟩ = some (.string ⟨#[45]⟩) ∧ v.cell? ⟨q8, u8 + 0 * 4 + 2, none⟩ = some (.int .i64 1) ∧ v.cell? ⟨q8, u8 + 0 * 4 + 3, none⟩ = some (.int .i64 1)) (fun v h => h.1) ?_
  have hSw : (fun v : World => (v.cell? ⟨g1, 0, none⟩ = some (.bool (ngB r1.1)) ∧ v.cell? ⟨g1, 1, none⟩ = some (.slice A1 n1 c1) ∧ v.cell? ⟨g1, 2, none⟩ = some (.int .i64 (r1.2.1 : Int)) ∧ v.cell? ⟨g2, 0, none⟩ = some (.bool (ngB r2.1)) ∧ v.cell? ⟨g2, 1, none⟩ = some (.slice A2 n2 c2) ∧ v.cell? ⟨g2, 2, none⟩ = some (.int .i64 (r2.2.1 : Int)) ∧ v.cell? ⟨g7, 0, none⟩ = some (.bool (ngB q.1)) ∧ v.cell? ⟨g7, 1, none⟩ = some (.slice A7 n7 c7) ∧ v.cell? ⟨g7, 2, none⟩ = some (.int .i64 (q.2.1 : Int))) ∧ v.cell? ⟨q8, u8 + 0 * 4, none⟩ = some (.int .i64 10) ∧ v.cell? ⟨q8, u8 + 0 * 4 + 1, none⟩ = some (.string ⟨#[45]⟩) ∧ v.cell? ⟨q8, u8 + 0 * 4 + 2, none⟩ = some (.int .i64 1) ∧ v.cell? ⟨q8, u8 + 0 * 4 + 3, none⟩ = some (.int .i64 1)) y7 := ⟨⟨(St.ad r1.1 A1 n1 c1 r1.2.1 (g := g1) E (by simp)).c0, (St.ad r1.1 A1 n1 c1 r1.2.1 (g := g1) E (by simp)).c1, (St.ad r1.1 A1 n1 c1 r1.2.1 (g := g1) E (by simp)).c2, (St.ad r2.1 A2 n2 c2 r2.2.1 (g := g2) E (by simp)).c0, (St.ad r2.1 A2 n2 c2 r2.2.1 (g := g2) E (by simp)).c1, (St.ad r2.1 A2 n2 c2 r2.2.1 (g := g2) E (by simp)).c2, (St.ad q.1 A7 n7 c7 q.2.1 (g := g7) E (by simp)).c0, (St.ad q.1 A7 n7 c7 q.2.1 (g := g7) E (by simp)).c1, (St.ad q.1 A7 n7 c7 q.2.1 (g := g7) E (by simp)).c2⟩, HC8.out⟩
  refine line_still awzR 47 47 [] 92 (.pointer (some ⟨q8, u8 + 0 * 4, none⟩)) [(90, .bool true)] rfl (by decide) (by decide) (by decide) ha (fun o ho hg => y_of (awzR.wanted hg rfl ha (d := 90) (by simp)) (fun wx hS => e_idx13 (k := 0) (by decide) ho (ha.ev (i := 91) (v := .slice (some ⟨q8, u8, none⟩) 1 d8) (by simp)) rfl)) (by simp) hSw ?_; intro a ha
  refine line_still awzR 48 48 [] 93 (.agg #[.int .i64 10, .string ⟨#[45]⟩, .int .i64 1, .int .i64 1]) [(90, .bool true)] rfl (by decide) (by decide) (by decide) ha (fun o ho hg => y_of (awzR.wanted hg rfl ha (d := 90) (by simp)) (fun wx hS => e_loadT13 ho (ha.ev (i := 92) (v := .pointer (some ⟨q8, u8 + 0 * 4, none⟩)) (by simp)) hS.2.1 hS.2.2.1 hS.2.2.2.1 hS.2.2.2.2)) (by simp) hSw ?_; intro a ha
  refine line_call awzR 49 49 [] 94 (args := #[.agg #[.int .i64 10, .string ⟨#[45]⟩, .int .i64 1, .int .i64 1]]) [(90, .bool true)] rfl (by decide) (by decide) (by decide) ha (fun o ho hg => ⟨(awzR.wanted hg rfl ha (d := 90) (by simp)), e_call13 (by kernel_rfl) ho rfl (by have q0 := ha.ev (i := 93) (v := .agg #[.int .i64 10, .string ⟨#[45]⟩, .int .i64 1, .int .i64 1]) (by simp); simp only [List.map_toArray, List.map_cons, List.map_nil, ev_const, q0])⟩) (by simp) ?_
  refine (T45.out _ (okw12 HOK.out E.out.bel)).mono ?_; rintro e y8 ⟨rfl, hb⟩
  have HC8 : Hid (y8.cell? ⟨q8, u8 + 0 * 4, none⟩ = some (.int .i64 10) ∧ y8.cell? ⟨q8, u8 + 0 * 4 + 1, none⟩ = some (.string ⟨#[45]⟩) ∧ y8.cell? ⟨q8, u8 + 0 * 4 + 2, none⟩ = some (.int .i64 1) ∧ y8.cell? ⟨q8, u8 + 0 * 4 + 3, none⟩ = some (.int .i64 1)) := ⟨(hb.cell (p := ⟨q8, _, none⟩) HQ8).trans HC8.out.1, (hb.cell (p := ⟨q8, _, none⟩) HQ8).trans HC8.out.2.1, (hb.cell (p := ⟨q8, _, none⟩) HQ8).trans HC8.out.2.2.1, (hb.cell (p := ⟨q8, _, none⟩) HQ8).trans HC8.out.2.2.2⟩
  have HQ8 : q8 < y8.heap.size := Nat.lt_of_lt_of_le HQ8 hb.size
  replace E := Lib.hid (E.out.step hb)
  clear hb
  have hSw : (fun v : World => (v.cell? ⟨g1, 0, none⟩ = some (.bool (ngB r1.1)) ∧ v.cell? ⟨g1, 1, none⟩ = some (.slice A1 n1 c1) ∧ v.cell? ⟨g1, 2, none⟩ = some (.int .i64 (r1.2.1 : Int)) ∧ v.cell? ⟨g2, 0, none⟩ = some (.bool (ngB r2.1)) ∧ v.cell? ⟨g2, 1, none⟩ = some (.slice A2 n2 c2) ∧ v.cell? ⟨g2, 2, none⟩ = some (.int .i64 (r2.2.1 : Int)) ∧ v.cell? ⟨g7, 0, none⟩ = some (.bool (ngB q.1)) ∧ v.cell? ⟨g7, 1, none⟩ = some (.slice A7 n7 c7) ∧ v.cell? ⟨g7, 2, none⟩ = some (.int .i64 (q.2.1 : Int))) ∧ v.cell? ⟨q8, u8 + 0 * 4, none⟩ = some (.int .i64 10) ∧ v.cell? ⟨q8, u8 + 0 * 4 + 1, none⟩ = some (.string ⟨#[45]⟩) ∧ v.cell? ⟨q8, u8 + 0 * 4 + 2, none⟩ = some (.int .i64 1) ∧ v.cell? ⟨q8, u8 + 0 * 4 + 3, none⟩ = some (.int .i64 1)) y8 := ⟨⟨(St.ad r1.1 A1 n1 c1 r1.2.1 (g := g1) E (by simp)).c0, (St.ad r1.1 A1 n1 c1 r1.2.1 (g := g1) E (by simp)).c1, (St.ad r1.1 A1 n1 c1 r1.2.1 (g := g1) E (by simp)).c2, (St.ad r2.1 A2 n2 c2 r2.2.1 (g := g2) E (by simp)).c0, (St.ad r2.1 A2 n2 c2 r2.2.1 (g := g2) E (by simp)).c1, (St.ad r2.1 A2 n2 c2 r2.2.1 (g := g2) E (by simp)).c2, (St.ad q.1 A7 n7 c7 q.2.1 (g := g7) E (by simp)).c0, (St.ad q.1 A7 n7 c7 q.2.1 (g := g7) E (by simp)).c1, (St.ad q.1 A7 n7 c7 q.2.1 (g := g7) E (by simp)).c2⟩, HC8.out⟩
  refine ⟨_, rfl, hSw, ?_⟩; intro a ha
  refine line_still awzR 50 50 [] 95 (.bool true) [] rfl (by decide) (by decide) (by decide) ha (fun o ho hg => y_of (wanted_none hg) (fun wx hS => e_pick ho (ha.ev (i := 90) (v := .bool true) (by simp)) (ha.ev (i := 94) (v := .bool true) (by simp)) rfl)) (by simp) hSw ?_; intro a ha
  refine line_still awzR 51 51 [] 96 (.bool true) [] rfl (by decide) (by decide) (by decide) ha (fun o ho hg => y_of (wanted_none hg) (fun wx hS => e_move (.inl ho) (ha.ev (i := 95) (v := .bool true) (by simp)))) (by simp) hSw ?_; intro a ha
  refine line_call awzR 52 52 [] 97 (args := #[.string ⟨#[42]⟩]) [(96, .bool true)] rfl (by decide) (by decide) (by decide) ha (fun o ho hg => ⟨(awzR.wanted hg rfl ha (d := 96) (by simp)), e_call13 (by kernel_rfl) ho rfl (by simp only [List.map_toArray, List.map_cons, List.map_nil, ev_const])⟩) (by simp) ?_
  refine (words_lit (okw12 HOK.out E.out.bel) (l := [42]) (by kernel_rfl) (by decide) wd_f).mono ?_; rintro e y9 ⟨B9, d9, rfl, hr, hb⟩
  obtain ⟨q9, u9, rfl, g5, g6, g9, g8, a0, a1, a2, a3⟩ := hr.at_ (k := 0) (t := (10, ⟨#[42]⟩, 1, 1)) rfl
  have HC8 : Hid (y9.cell? ⟨q8, u8 + 0 * 4, none⟩ = some (.int .i64 10) ∧ y9.cell? ⟨q8, u8 + 0 * 4 + 1, none⟩ = some (.string ⟨#[45]⟩) ∧ y9.cell? ⟨q8, u8 + 0 * 4 + 2, none⟩ = some (.int .i64 1) ∧ y9.cell? ⟨q8, u8 + 0 * 4 + 3, none⟩ = some (.int .i64 1)) := ⟨(hb.cell (p := ⟨q8, _, none⟩) HQ8).trans HC8.out.1, (hb.cell (p := ⟨q8, _, none⟩) HQ8).trans HC8.out.2.1, (hb.cell (p := ⟨q8, _, none⟩) HQ8).trans HC8.out.2.2.1, (hb.cell (p := ⟨q8, _, none⟩) HQ8).trans HC8.out.2.2.2⟩
  have HQ8 : q8 < y9.heap.size := Nat.lt_of_lt_of_le HQ8 hb.size
  replace E := Lib.hid (E.out.step hb)
  have HQ9 : q9 < y9.heap.size := g9
  have HC9 : Hid (y9.cell? ⟨q9, u9 + 0 * 4, none⟩ = some (.int .i64 10) ∧ y9.cell? ⟨q9, u9 + 0 * 4 + 1, none⟩ = some (.string ⟨#[42]⟩) ∧ y9.cell? ⟨q9, u9 + 0 * 4 + 2, none⟩ = some (.int .i64 1) ∧ y9.cell? ⟨q9, u9 + 0 * 4 + 3, none⟩ = some (.int .i64 1)) := ⟨a0, a1, a2, a3⟩
  clear hb hr g5 g6 g9 g8 a0 a1 a2 a3
  have hSw : (fun v : World => (v.cell? ⟨g1, 0, none⟩ = some (.bool (ngB r1.1)) ∧ v.cell? ⟨g1, 1, none⟩ = some (.slice A1 n1 c1) ∧ v.cell? ⟨g1, 2, none⟩ = some (.int .i64 (r1.2.1 : Int)) ∧ v.cell? ⟨g2, 0, none⟩ = some (.bool (ngB r2.1)) ∧ v.cell? ⟨g2, 1, none⟩ = some (.slice A2 n2 c2) ∧ v.cell? ⟨g2, 2, none⟩ = some (.int .i64 (r2.2.1 : Int)) ∧ v.cell? ⟨g7, 0, none⟩ = some (.bool (ngB q.1)) ∧ v.cell? ⟨g7, 1, none⟩ = some (.slice A7 n7 c7) ∧ v.cell? ⟨g7, 2, none⟩ = some (.int .i64 (q.2.1 : Int))) ∧ v.cell? ⟨q8, u8 + 0 * 4, none⟩ = some (.int .i64 10) ∧ v.cell? ⟨q8, u8 + 0 * 4 + 1, none⟩ = some (.string ⟨#[45]⟩) ∧ v.cell? ⟨q8, u8 + 0 * 4 + 2, none⟩ = some (.int .i64 1) ∧ v.cell? ⟨q8, u8 + 0 * 4 + 3, none⟩ = some (.int .i64 1)) y9 := ⟨⟨(St.ad r1.1 A1 n1 c1 r1.2.1 (g := g1) E (by simp)).c0, (St.ad r1.1 A1 n1 c1 r1.2.1 (g := g1) E (by simp)).c1, (St.ad r1.1 A1 n1 c1 r1.2.1 (g := g1) E (by simp)).c2, (St.ad r2.1 A2 n2 c2 r2.2.1 (g := g2) E (by simp)).c0, (St.ad r2.1 A2 n2 c2 r2.2.1 (g := g2) E (by simp)).c1, (St.ad r2.1 A2 n2 c2 r2.2.1 (g := g2) E (by simp)).c2, (St.ad q.1 A7 n7 c7 q.2.1 (g := g7) E (by simp)).c0, (St.ad q.1 A7 n7 c7 q.2.1 (g := g7) E (by simp)).c1, (St.ad q.1 A7 n7 c7 q.2.1 (g := g7) E (by simp)).c2⟩, HC8.out⟩
  refine ⟨_, rfl, hSw, ?_⟩; intro a ha
  refine line_more (S2 := fun v : World => ((v.cell? ⟨g1, 0, none⟩ = some (.bool (ngB r1.1)) ∧ v.cell? ⟨g1, 1, none⟩ = some (.slice A1 n1 c1) ∧ v.cell? ⟨g1, 2, none⟩ = some (.int .i64 (r1.2.1 : Int)) ∧ v.cell? ⟨g2, 0, none⟩ = some (.bool (ngB r2.1)) ∧ v.cell? ⟨g2, 1, none⟩ = some (.slice A2 n2 c2) ∧ v.cell? ⟨g2, 2, none⟩ = some (.int .i64 (r2.2.1 : Int)) ∧ v.cell? ⟨g7, 0, none⟩ = some (.bool (ngB q.1)) ∧ v.cell? ⟨g7, 1, none⟩ = some (.slice A7 n7 c7) ∧ v.cell? ⟨g7, 2, none⟩ = some (.int .i64 (q.2.1 : Int))) ∧ v.cell? ⟨q8, u8 + 0 * 4, none⟩ = some (.int .i64 10) ∧ v.cell? ⟨q8, u8 + 0 * 4 + 1, none⟩ = some (.string ⟨#[45]⟩) ∧ v.cell? ⟨q8, u8 + 0 * 4 + 2, none⟩ = some (.int .i64 1) ∧ v.cell? ⟨q8, u8 + 0 * 4 + 3, none⟩ = some (.int .i64 1)) ∧ v.cell? ⟨q9, u9 + 0 * 4, none⟩ = some (.int .i64 10) ∧ v.cell? ⟨q9, u9 + 0 * 4 + 1, none⟩ = some (.string ⟨#[42]⟩) ∧ v.cell? ⟨q9, u9 + 0 * 4 + 2, none⟩ = some (.int .i64 1) ∧ v.cell? ⟨q9, u9 + 0 * 4 + 3, none⟩ = some (.int .i64 1)) (fun v h => h.1) ?_
  have hSw : (fun v : World => ((v.cell? ⟨g1, 0, none⟩ = some (.bool (ngB r1.1)) ∧ v.cell? ⟨g1, 1, none⟩ = some (.slice A1 n1 c1) ∧ v.cell? ⟨g1, 2, none⟩ = some (.int .i64 (r1.2.1 : Int)) ∧ v.cell? ⟨g2, 0, none⟩ = some (.bool (ngB r2.1)) ∧ v.cell? ⟨g2, 1, none⟩ = some (.slice A2 n2 c2) ∧ v.cell? ⟨g2, 2, none⟩ = some (.int .i64 (r2.2.1 : Int)) ∧ v.cell? ⟨g7, 0, none⟩ = some (.bool (ngB q.1)) ∧ v.cell? ⟨g7, 1, none⟩ = some (.slice A7 n7 c7) ∧ v.cell? ⟨g7, 2, none⟩ = some (.int .i64 (q.2.1 : Int))) ∧ v.cell? ⟨q8, u8 + 0 * 4, none⟩ = some (.int .i64 10) ∧ v.cell? ⟨q8, u8 + 0 * 4 + 1, none⟩ = some (.string ⟨#[45]⟩) ∧ v.cell? ⟨q8, u8 + 0 * 4 + 2, none⟩ = some (.int .i64 1) ∧ v.cell? ⟨q8, u8 + 0 * 4 + 3, none⟩ = some (.int .i64 1)) ∧ v.cell? ⟨q9, u9 + 0 * 4, none⟩ = some (.int .i64 10) ∧ v.cell? ⟨q9, u9 + 0 * 4 + 1, none⟩ = some (.string ⟨#[42]⟩) ∧ v.cell? ⟨q9, u9 + 0 * 4 + 2, none⟩ = some (.int .i64 1) ∧ v.cell? ⟨q9, u9 + 0 * 4 + 3, none⟩ = some (.int .i64 1)) y9 := ⟨hSw, HC9.out⟩
  refine line_still awzR 53 53 [] 98 (.pointer (some ⟨q9, u9 + 0 * 4, none⟩)) [(96, .bool true)] rfl (by decide) (by decide) (by decide) ha (fun o ho hg => y_of (awzR.wanted hg rfl ha (d := 96) (by simp)) (fun wx hS => e_idx13 (k := 0) (by decide) ho (ha.ev (i := 97) (v := .slice (some ⟨q9, u9, none⟩) 1 d9) (by simp)) rfl)) (by simp) hSw ?_; intro a ha
  refine line_still awzR 54 54 [] 99 (.agg #[.int .i64 10, .string ⟨#[42]⟩, .int .i64 1, .int .i64 1]) [(96, .bool true)] rfl (by decide) (by decide) (by decide) ha (fun o ho hg => y_of (awzR.wanted hg rfl ha (d := 96) (by simp)) (fun wx hS => e_loadT13 ho (ha.ev (i := 98) (v := .pointer (some ⟨q9, u9 + 0 * 4, none⟩)) (by simp)) hS.2.1 hS.2.2.1 hS.2.2.2.1 hS.2.2.2.2)) (by simp) hSw ?_; intro a ha
  refine line_call awzR 55 55 [] 100 (args := #[.agg #[.int .i64 10, .string ⟨#[42]⟩, .int .i64 1, .int .i64 1]]) [(96, .bool true)] rfl (by decide) (by decide) (by decide) ha (fun o ho hg => ⟨(awzR.wanted hg rfl ha (d := 96) (by simp)), e_call13 (by kernel_rfl) ho rfl (by have q0 := ha.ev (i := 99) (v := .agg #[.int .i64 10, .string ⟨#[42]⟩, .int .i64 1, .int .i64 1]) (by simp); simp only [List.map_toArray, List.map_cons, List.map_nil, ev_const, q0])⟩) (by simp) ?_
  refine (T42.out _ (okw12 HOK.out E.out.bel)).mono ?_; rintro e y10 ⟨rfl, hb⟩
  have HC8 : Hid (y10.cell? ⟨q8, u8 + 0 * 4, none⟩ = some (.int .i64 10) ∧ y10.cell? ⟨q8, u8 + 0 * 4 + 1, none⟩ = some (.string ⟨#[45]⟩) ∧ y10.cell? ⟨q8, u8 + 0 * 4 + 2, none⟩ = some (.int .i64 1) ∧ y10.cell? ⟨q8, u8 + 0 * 4 + 3, none⟩ = some (.int .i64 1)) := ⟨(hb.cell (p := ⟨q8, _, none⟩) HQ8).trans HC8.out.1, (hb.cell (p := ⟨q8, _, none⟩) HQ8).trans HC8.out.2.1, (hb.cell (p := ⟨q8, _, none⟩) HQ8).trans HC8.out.2.2.1, (hb.cell (p := ⟨q8, _, none⟩) HQ8).trans HC8.out.2.2.2⟩
  have HQ8 : q8 < y10.heap.size := Nat.lt_of_lt_of_le HQ8 hb.size
  have HC9 : Hid (y10.cell? ⟨q9, u9 + 0 * 4, none⟩ = some (.int .i64 10) ∧ y10.cell? ⟨q9, u9 + 0 * 4 + 1, none⟩ = some (.string ⟨#[42]⟩) ∧ y10.cell? ⟨q9, u9 + 0 * 4 + 2, none⟩ = some (.int .i64 1) ∧ y10.cell? ⟨q9, u9 + 0 * 4 + 3, none⟩ = some (.int .i64 1)) := ⟨(hb.cell (p := ⟨q9, _, none⟩) HQ9).trans HC9.out.1, (hb.cell (p := ⟨q9, _, none⟩) HQ9).trans HC9.out.2.1, (hb.cell (p := ⟨q9, _, none⟩) HQ9).trans HC9.out.2.2.1, (hb.cell (p := ⟨q9, _, none⟩) HQ9).trans HC9.out.2.2.2⟩
  have HQ9 : q9 < y10.heap.size := Nat.lt_of_lt_of_le HQ9 hb.size
  replace E := Lib.hid (E.out.step hb)
  clear hb
  have hSw : (fun v : World => ((v.cell? ⟨g1, 0, none⟩ = some (.bool (ngB r1.1)) ∧ v.cell? ⟨g1, 1, none⟩ = some (.slice A1 n1 c1) ∧ v.cell? ⟨g1, 2, none⟩ = some (.int .i64 (r1.2.1 : Int)) ∧ v.cell? ⟨g2, 0, none⟩ = some (.bool (ngB r2.1)) ∧ v.cell? ⟨g2, 1, none⟩ = some (.slice A2 n2 c2) ∧ v.cell? ⟨g2, 2, none⟩ = some (.int .i64 (r2.2.1 : Int)) ∧ v.cell? ⟨g7, 0, none⟩ = some (.bool (ngB q.1)) ∧ v.cell? ⟨g7, 1, none⟩ = some (.slice A7 n7 c7) ∧ v.cell? ⟨g7, 2, none⟩ = some (.int .i64 (q.2.1 : Int))) ∧ v.cell? ⟨q8, u8 + 0 * 4, none⟩ = some (.int .i64 10) ∧ v.cell? ⟨q8, u8 + 0 * 4 + 1, none⟩ = some (.string ⟨#[45]⟩) ∧ v.cell? ⟨q8, u8 + 0 * 4 + 2, none⟩ = some (.int .i64 1) ∧ v.cell? ⟨q8, u8 + 0 * 4 + 3, none⟩ = some (.int .i64 1)) ∧ v.cell? ⟨q9, u9 + 0 * 4, none⟩ = some (.int .i64 10) ∧ v.cell? ⟨q9, u9 + 0 * 4 + 1, none⟩ = some (.string ⟨#[42]⟩) ∧ v.cell? ⟨q9, u9 + 0 * 4 + 2, none⟩ = some (.int .i64 1) ∧ v.cell? ⟨q9, u9 + 0 * 4 + 3, none⟩ = some (.int .i64 1)) y10 := ⟨⟨⟨(St.ad r1.1 A1 n1 c1 r1.2.1 (g := g1) E (by simp)).c0, (St.ad r1.1 A1 n1 c1 r1.2.1 (g := g1) E (by simp)).c1, (St.ad r1.1 A1 n1 c1 r1.2.1 (g := g1) E (by simp)).c2, (St.ad r2.1 A2 n2 c2 r2.2.1 (g := g2) E (by simp)).c0, (St.ad r2.1 A2 n2 c2 r2.2.1 (g := g2) E (by simp)).c1, (St.ad r2.1 A2 n2 c2 r2.2.1 (g := g2) E (by simp)).c2, (St.ad q.1 A7 n7 c7 q.2.1 (g := g7) E (by simp)).c0, (St.ad q.1 A7 n7 c7 q.2.1 (g := g7) E (by simp)).c1, (St.ad q.1 A7 n7 c7 q.2.1 (g := g7) E (by simp)).c2⟩, HC8.out⟩, HC9.out⟩
  refine ⟨_, rfl, hSw, ?_⟩; intro a ha
  refine line_still awzR 56 56 [] 101 (.bool true) [(96, .bool true)] rfl (by decide) (by decide) (by decide) ha (fun o ho hg => y_of (awzR.wanted hg rfl ha (d := 96) (by simp)) (fun wx hS => e_not13 ho (ha.ev (i := 100) (v := .bool false) (by simp)))) (by simp) hSw ?_; intro a ha
  refine line_still awzR 57 57 [] 102 (.bool true) [] rfl (by decide) (by decide) (by decide) ha (fun o ho hg => y_of (wanted_none hg) (fun wx hS => e_pick ho (ha.ev (i := 96) (v := .bool true) (by simp)) (ha.ev (i := 101) (v := .bool true) (by simp)) rfl)) (by simp) hSw ?_; intro a ha
  refine line_still awzR 58 58 [] 0 (.bool true) [] rfl (by decide) (by decide) (by decide) ha (fun o ho hg => y_of (wanted_none hg) (fun wx hS => e_move (.inr ho) (ha.ev (i := 102) (v := .bool true) (by simp)))) (by simp) hSw ?_; intro a ha
  refine line_end awzR rfl ?_
  simp only [Exit.then]
  refine hK _ _ ?_
  go_wp2
  exact bodyPost_ret (v := .bool true) (by have := ha.2.2 (0, .bool true) (by simp); simp [results, Tryz.results8, go_sem, Array.getD_eq_getD_getElem?, this]) ha.2.1 ⟨rfl, E.out.bel⟩
end Go.Proofs.YtdpkbglfebimcaaGreatDoor.Num
