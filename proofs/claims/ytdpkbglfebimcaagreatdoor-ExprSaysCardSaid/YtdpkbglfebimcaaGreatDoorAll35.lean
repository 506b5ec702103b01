/- What the proof needs, texts ExpA, ExpB, ExpL, ExpC, ExpD, ExpE, ExpF, ExpG, ExpH, ExpI, ExpJ, ExpK, ExpM, in one text. -/
import Derived.Test.YtdpkbglfebimcaaGreatDoorAll34
import Derived.Test.YtdpkbglfebimcaaGreatDoorAll32
import Derived.Test.YtdpkbglfebimcaaGreatDoorAll20
import Derived.Test.YtdpkbglfebimcaaGreatDoorAll24
import Derived.Test.YtdpkbglfebimcaaGreatDoorAll29
set_option linter.unusedVariables false
set_option linter.unusedSimpArgs false
set_option maxRecDepth 100000
set_option maxHeartbeats 32000000
namespace Go.Proofs.YtdpkbglfebimcaaGreatDoor.Num
open Go.RowKit
abbrev Tk4 := Int × ByteArray × Int × Int
def tok (t : Tk4) : Tok := (t.1, t.2.1)
def tk4 (t : Tk4) : Value := .agg #[.int .i64 t.1, .string t.2.1, .int .i64 t.2.2.1, .int .i64 t.2.2.2]
def rowK : List Tk4 → List Value
 | [] => []
 | t :: r => .int .i64 t.1 :: .string t.2.1 :: .int .i64 t.2.2.1 :: .int .i64 t.2.2.2 :: rowK r
theorem rowK_get : ∀ (L : List Tk4) (j : Nat) (t : Tk4), L[j]? = some t → (rowK L)[j * 4]? = some (.int .i64 t.1) ∧ (rowK L)[j * 4 + 1]? = some (.string t.2.1) ∧ (rowK L)[j * 4 + 2]? = some (.int .i64 t.2.2.1) ∧ (rowK L)[j * 4 + 3]? = some (.int .i64 t.2.2.2)
 | [], j, t, h => by cases h
 | x :: r, 0, t, h => by obtain rfl := Option.some.inj h; exact ⟨rfl, rfl, rfl, rfl⟩
 | x :: r, j + 1, t, h => by
  have := rowK_get r j t h
  have e : (j + 1) * 4 = j * 4 + 4 := by omega
  rw [e]
  exact this
structure RdK (w : World) (B : Nat) (A : Option Addr) (n c : Nat) (L : List Tk4) : Prop where
 len : n = L.length
 cap : n ≤ c
 room : c ≤ maxLen
 row : Row w B A (rowK L)
section
variable {w w' : World} {B n c k : Nat} {A : Option Addr} {L : List Tk4}
theorem RdK.at_ {t : Tk4} (h : RdK w B A n c L) (hk : L[k]? = some t) : ∃ b o, A = some ⟨b, o, none⟩ ∧ n ≤ c ∧ c ≤ maxLen ∧ b < B ∧ k < n ∧
  w.cell? ⟨b, o + k * 4, none⟩ = some (.int .i64 t.1) ∧ w.cell? ⟨b, o + k * 4 + 1, none⟩ = some (.string t.2.1) ∧ w.cell? ⟨b, o + k * 4 + 2, none⟩ = some (.int .i64 t.2.2.1) ∧ w.cell? ⟨b, o + k * 4 + 3, none⟩ = some (.int .i64 t.2.2.2) := by
 obtain ⟨r0, r1, r2, r3⟩ := rowK_get L k t hk
 rcases h.row with h0 | ⟨b, o, rfl, hb, hc⟩
 ·rw [h0] at r0; cases r0
 ·refine ⟨b, o, rfl, h.cap, h.room, hb, by rw [h.len]; exact (List.getElem?_eq_some_iff.1 hk).1, hc _ _ r0, ?_, ?_, ?_⟩
  ·rw [Nat.add_assoc]; exact hc _ _ r1
  ·rw [Nat.add_assoc]; exact hc _ _ r2
  ·rw [Nat.add_assoc]; exact hc _ _ r3
theorem RdK.on (h : RdK w B A n c L) (hB : B ≤ w.heap.size) (hb : Below w.heap.size w w') : RdK w' B A n c L :=
 ⟨h.len, h.cap, h.room, h.row.keep fun p hp => hb.cell (Nat.lt_of_lt_of_le hp hB)⟩
theorem RdK.kp {g : Nat} (h : RdK w B A n c L) (hg : B ≤ g) (hB : B ≤ w.heap.size) (hk : Kp g none w w') : RdK w' B A n c L :=
 ⟨h.len, h.cap, h.room, h.row.keep fun p hp => World.cell?_of_block (hk.block p.block (by omega) (by omega) (by simp))⟩
end
theorem kp_trans {c : Nat} {u v w : World} (h : Kp c none u v) (h2 : Kp c none v w) : Kp c none u w :=
 ⟨h2.os.trans h.os, h2.tape.trans h.tape, h2.output.trans h.output, Nat.le_trans h.size h2.size, fun k hk hc hr => (h2.block k (Nat.lt_of_lt_of_le hk h.size) hc hr).trans (h.block k hk hc hr)⟩
theorem kp_set (w : World) (g j : Nat) (u : Value) : Kp g none w (w.setCell ⟨g, j, none⟩ u) :=
 ⟨rfl, rfl, rfl, by simp, fun k _ hc _ => heap_setCell_other w ⟨g, j, none⟩ k u hc⟩
theorem kp_of {c B : Nat} {w w' : World} (h : Below B w w') (hB : w.heap.size ≤ B) : Kp c none w w' :=
 ⟨h.os, h.tape, h.output, h.size, fun k hk _ _ => h.block k (Nat.lt_of_lt_of_le hk hB)⟩
def StB (w : World) (g : Nat) (A : Option Addr) (n c : Nat) (a d e : Nat) : Prop := w.heap[g]? = some (.cells #[.slice A n c, .int .i64 (a : Int), .int .i64 (d : Int), .int .i64 (e : Int)] 57 (0, 0))
section
variable {w w' : World} {g n c a d e : Nat} {A : Option Addr}
theorem StB.lt (h : StB w g A n c a d e) : g < w.heap.size := by
 rcases Nat.lt_or_ge g w.heap.size with h1 | h1
 ·exact h1
 ·unfold StB at h; rw [Array.getElem?_eq_none h1] at h; cases h
theorem StB.bx (h : StB w g A n c a d e) : Bx4 w g (.slice A n c) (.int .i64 (a : Int)) (.int .i64 (d : Int)) (.int .i64 (e : Int)) := by
 have hc := fun j => cell_of_row w g j _ _ _ h
 have hf : ∀ j, w.frozen? ⟨g, j, none⟩ = false := fun j => by
  have h2 : w.heap[g]? = some (.cells #[.slice A n c, .int .i64 (a : Int), .int .i64 (d : Int), .int .i64 (e : Int)] 57 (0, 0)) := h
  simp [World.frozen?, h2]
 exact ⟨hc 0, hc 1, hc 2, hc 3, hf 0, hf 1, hf 2, hf 3, h.lt⟩
theorem StB.set1 (h : StB w g A n c a d e) (x : Nat) : StB (w.setCell ⟨g, 1, none⟩ (.int .i64 (x : Int))) g A n c x d e := heap_setCell_same w g 1 _ _ _ h
theorem StB.set2 (h : StB w g A n c a d e) (x : Nat) : StB (w.setCell ⟨g, 2, none⟩ (.int .i64 (x : Int))) g A n c a x e := heap_setCell_same w g 2 _ _ _ h
theorem StB.set3 (h : StB w g A n c a d e) (x : Nat) : StB (w.setCell ⟨g, 3, none⟩ (.int .i64 (x : Int))) g A n c a d x := heap_setCell_same w g 3 _ _ _ h
theorem StB.on (h : StB w g A n c a d e) (hb : Below w.heap.size w w') : StB w' g A n c a d e := (hb.block g h.lt).trans h
theorem StB.noLimb (h : StB w g A n c a d e) {j : Nat} {x : Nat} (hx : w.cell? ⟨g, j, none⟩ = some (.int .u32 (x : Int))) : False := by
 rw [cell_of_row w g j _ _ _ h] at hx
 rcases j with _ | _ | _ | _ | j
 ·cases hx
 ·cases hx
 ·cases hx
 ·cases hx
 ·simp at hx
theorem Lim.kp {B m k : Nat} {A' : Option Addr} {xs : List Nat} (h : Lim w B A' m k xs) (hs : StB w g A n c a d e) (hB : B ≤ w.heap.size) (hk : Kp g none w w') : Lim w' B A' m k xs := by
 refine ⟨h.len, h.cap, h.room, h.fit, ?_, h.addr⟩
 rcases h.row with h' | ⟨b, o, rfl, hb, hc⟩
 ·exact .inl h'
 ·refine .inr ⟨b, o, rfl, hb, fun j u hu => ?_⟩
  have hj := hc j u hu
  by_cases hbg : b = g
  ·exfalso
   have := List.mem_of_getElem? hu
   unfold vals at this
   obtain ⟨x, _, rfl⟩ := List.mem_map.1 this
   subst hbg
   exact hs.noLimb hj
  ·exact (World.cell?_of_block (hk.block b (by omega) hbg (by simp))).trans hj
end
theorem Box.kp {g c : Nat} {v v' : World} {x0 x1 x2 : Value} (h : Box v g x0 x1 x2) (hk : Kp c none v v') (hc : g ≠ c) : Box v' g x0 x1 x2 := by
 have hb := hk.block g h.lt hc (by simp)
 have hcell : ∀ j, v'.cell? ⟨g, j, none⟩ = v.cell? ⟨g, j, none⟩ := fun j => World.cell?_of_block hb
 have hfr : ∀ j, v'.frozen? ⟨g, j, none⟩ = v.frozen? ⟨g, j, none⟩ := fun j => World.frozen?_of_block hb
 exact ⟨(hcell 0).trans h.c0, (hcell 1).trans h.c1, (hcell 2).trans h.c2, (hfr 0).trans h.f0, (hfr 1).trans h.f1, (hfr 2).trans h.f2, Nat.lt_of_lt_of_le h.lt hk.size⟩
structure SX (w0 w : World) (g B : Nat) (A : Option Addr) (n c : Nat) (L : List Tk4) (a d e : Nat) (l : List (Option Addr × Nat × Nat × Nat)) (bs : List (Nat × Value × Value × Value)) : Prop where
 kp : Kp g none w0 w
 st : StB w g A n c a d e
 rd : RdK w B A n c L
 pl : B ≤ g ∧ g < w0.heap.size
 num : ∀ q ∈ l, Num w w.heap.size q.1 q.2.1 q.2.2.1 q.2.2.2
 box : ∀ q ∈ bs, Box w q.1 q.2.1 q.2.2.1 q.2.2.2 ∧ w0.heap.size ≤ q.1
section
variable {w0 w w' : World} {g B n c a d e a' d' e' : Nat} {A : Option Addr} {L : List Tk4} {l : List (Option Addr × Nat × Nat × Nat)} {bs : List (Nat × Value × Value × Value)}
theorem SX.start (hs : StB w g A n c a d e) (hr : RdK w B A n c L) (hp : B ≤ g) : SX w w g B A n c L a d e [] [] :=
 ⟨Kp.refl _ _ _, hs, hr, ⟨hp, hs.lt⟩, (fun q hq => by cases hq), (fun q hq => by cases hq)⟩
theorem SX.step (h : SX w0 w g B A n c L a d e l bs) (hb : Below w.heap.size w w') : SX w0 w' g B A n c L a d e l bs :=
 ⟨kp_trans h.kp (kp_of hb (Nat.le_refl _)), h.st.on hb, h.rd.on (by have := h.pl; have := h.st.lt; omega) hb, h.pl, fun q hq => (h.num q hq).on hb, fun q hq => ⟨(h.box q hq).1.on hb, (h.box q hq).2⟩⟩
theorem SX.call (h : SX w0 w g B A n c L a d e l bs) (hk : Kp g none w w') (hs : StB w' g A n c a' d' e') : SX w0 w' g B A n c L a' d' e' l bs :=
 ⟨kp_trans h.kp hk, hs, h.rd.kp h.pl.1 (by have := h.pl; have := h.st.lt; omega) hk, h.pl, fun q hq => (Lim.kp (h.num q hq) h.st (Nat.le_refl _) hk).more hk.size, fun q hq => ⟨(h.box q hq).1.kp hk (by have := h.pl; have := (h.box q hq).2; omega), (h.box q hq).2⟩⟩
theorem SX.set1 (h : SX w0 w g B A n c L a d e l bs) (x : Nat) : SX w0 (w.setCell ⟨g, 1, none⟩ (.int .i64 (x : Int))) g B A n c L x d e l bs := h.call (kp_set _ _ _ _) (h.st.set1 x)
theorem SX.set2 (h : SX w0 w g B A n c L a d e l bs) (x : Nat) : SX w0 (w.setCell ⟨g, 2, none⟩ (.int .i64 (x : Int))) g B A n c L a x e l bs := h.call (kp_set _ _ _ _) (h.st.set2 x)
theorem SX.push (h : SX w0 w g B A n c L a d e l bs) {A1 : Option Addr} {n1 c1 x : Nat} (hn : Num w w.heap.size A1 n1 c1 x) : SX w0 w g B A n c L a d e ((A1, n1, c1, x) :: l) bs :=
 ⟨h.kp, h.st, h.rd, h.pl, fun q hq => by
  rcases List.mem_cons.1 hq with rfl | hq
  ·exact hn
  ·exact h.num q hq, h.box⟩
theorem SX.lay {x0 x1 x2 : Value} {t : TypeId} {g1 : Nat} (h : SX w0 w g B A n c L a d e l bs) (hg : g1 = w.heap.size) : SX w0 (w.alloc (.cells #[x0, x1, x2] t)) g B A n c L a d e l ((g1, x0, x1, x2) :: bs) := by
 have h2 := h.step ((Below.refl _ _).alloc (Nat.le_refl _) (.cells #[x0, x1, x2] t))
 refine ⟨h2.kp, h2.st, h2.rd, h2.pl, h2.num, fun q hq => ?_⟩
 rcases List.mem_cons.1 hq with rfl | hq
 ·exact ⟨Box.newAt w x0 x1 x2 t hg, by have := h.kp.size; show _ ≤ g1; omega⟩
 ·exact h2.box q hq
theorem SX.got {A1 : Option Addr} {n1 c1 x : Nat} (h : Hid (SX w0 w g B A n c L a d e l bs)) (hm : (A1, n1, c1, x) ∈ l) : Num w w.heap.size A1 n1 c1 x := h.out.num _ hm
theorem SX.at_ {x0 x1 x2 : Value} {g1 : Nat} (h : Hid (SX w0 w g B A n c L a d e l bs)) (hm : (g1, x0, x1, x2) ∈ bs) : Box w g1 x0 x1 x2 := (h.out.box _ hm).1
theorem SX.store {g1 : Nat} {x0 x1 x2 : Value} (h : SX w0 w g B A n c L a d e l bs) (hm : (g1, x0, x1, x2) ∈ bs) (h0 : NoLimb x0) (h1 : NoLimb x1) (h2 : NoLimb x2) (bs' : List (Nat × Value × Value × Value)) (hs : ∀ q ∈ bs', q ∈ bs ∧ g1 ≠ q.1) (y0 y1 y2 : Value) :
  SX w0 (put3 w g1 y0 y1 y2) g B A n c L a d e l ((g1, y0, y1, y2) :: bs') := by
 have X := h.box _ hm
 have hg : g ≠ g1 := by have := h.pl; have := X.2; dsimp only at this; omega
 have hblk : ∀ k, k ≠ g1 → (put3 w g1 y0 y1 y2).heap[k]? = w.heap[k]? := fun k hk => by
  unfold put3
  rw [heap_setCell_other _ ⟨g1, 2, none⟩ k _ hk, heap_setCell_other _ ⟨g1, 1, none⟩ k _ hk, heap_setCell_other _ ⟨g1, 0, none⟩ k _ hk]
 have hsz : (put3 w g1 y0 y1 y2).heap.size = w.heap.size := by simp
 refine ⟨⟨h.kp.os, h.kp.tape, h.kp.output, by rw [hsz]; exact h.kp.size, fun k hk hc hr => ?_⟩, (hblk g hg).trans h.st, ⟨h.rd.len, h.rd.cap, h.rd.room, h.rd.row.keep fun p hp => World.cell?_of_block (hblk p.block (by have := h.pl; have := X.2; dsimp only at this; omega))⟩, h.pl, fun q hq => ?_, fun q hq => ?_⟩
 ·rw [hblk k (by have := X.2; dsimp only at this; omega)]; exact h.kp.block k hk hc hr
 ·have := (h.num q hq).put3 X.1 h0 h1 h2 y0 y1 y2
  rw [hsz]; exact this
 ·rcases List.mem_cons.1 hq with rfl | hq
  ·exact ⟨X.1.put y0 y1 y2, X.2⟩
  ·exact ⟨(h.box q (hs q hq).1).1.apart y0 y1 y2 (hs q hq).2, (h.box q (hs q hq).1).2⟩
theorem SX.sub {l' : List (Option Addr × Nat × Nat × Nat)} {bs' : List (Nat × Value × Value × Value)} (h : SX w0 w g B A n c L a d e l bs) (hl : ∀ q ∈ l', q ∈ l) (hs : ∀ q ∈ bs', q ∈ bs) : SX w0 w g B A n c L a d e l' bs' :=
 ⟨h.kp, h.st, h.rd, h.pl, fun q hq => h.num q (hl q hq), fun q hq => h.box q (hs q hq)⟩
theorem SX.az {g1 : Nat} (h : Hid (SX w0 w g B A n c L a d e l bs)) (hm : (g1, .bool false, .slice none 0 0, .int .i64 0) ∈ bs) : Box w g1 (.bool false) (.slice none 0 0) (.int .i64 0) := SX.at_ h hm
theorem SX.ad {g1 : Nat} (x : Int) (A1 : Option Addr) (n1 c1 : Nat) (k : Int) (h : Hid (SX w0 w g B A n c L a d e l bs)) (hm : (g1, .bool (ngB x), .slice A1 n1 c1, .int .i64 k) ∈ bs) : Box w g1 (.bool (ngB x)) (.slice A1 n1 c1) (.int .i64 k) := SX.at_ h hm
theorem SX.sz {g1 : Nat} (h : SX w0 w g B A n c L a d e l bs) (hm : (g1, .bool false, .slice none 0 0, .int .i64 0) ∈ bs) (y0 y1 y2 : Value) : SX w0 (put3 w g1 y0 y1 y2) g B A n c L a d e l [(g1, y0, y1, y2)] := SX.store h hm (noLimb_bool _) (noLimb_slice _ _ _) (noLimb_int _) [] (fun q hq => by cases hq) y0 y1 y2
end
theorem isg_is {k : Int} {T : ByteArray} {c : Nat} : isg (k, T) c = (decide (k = 10) && decide (bs9 T = [c])) := rfl
theorem txt_eq {T s : ByteArray} : (T.toList == s.toList) = decide (bs9 T = bs9 s) := by
 rw [Bool.eq_iff_iff, beq_iff_eq, decide_eq_true_iff]
 constructor
 ·intro h
  have : T = s := by
   have h2 : T.data.toList = s.data.toList := by rw [← ByteArray.toList_eq, ← ByteArray.toList_eq]; exact h
   cases T; cases s
   exact congrArg ByteArray.mk (Array.toList_inj.1 h2)
  rw [this]
 ·intro h; rw [bs9_inj h]
theorem sign13 {k : Int} {T s : ByteArray} {x : Nat} {b : Bool} (hs : bs9 s = [x]) (h : isg (k, T) x = b) (l c : Int) (w : World) : Calls Tryz.prog 32 #[.agg #[.int .i64 k, .string T, .int .i64 l, .int .i64 c], .string s] w (Ret9 w (.bool b)) := by
 rw [isg_is, ← hs, ← txt_eq] at h
 have HB : Hid (Below w.heap.size w (w.alloc (.cells #[.int .i64 k, .string T, .int .i64 l, .int .i64 c] 39))) := (Below.refl _ _).alloc (Nat.le_refl _) _
 by_cases hk : k = 10
 ·have d : (k == 10) = true := by rw [hk]; rfl
  have E : Hid ((T.toList == s.toList) = b) := by show _ = _; rw [← h, decide_eq_true hk, Bool.true_and]
  clear h hs hk
  go_enter Tryz.func32, Tryz.ntmps32
  go_wp2_with fail
  go_ret
  exact ⟨rb9 E.out, HB.out⟩
 ·have d : (k == 10) = false := by rw [beq_eq_false_iff_ne]; exact hk
  have E : Hid (false = b) := by show _ = _; rw [← h, decide_eq_false hk, Bool.false_and]
  clear h hs hk
  go_enter Tryz.func32, Tryz.ntmps32
  go_wp2_with fail
  go_ret
  exact ⟨rb9 E.out, HB.out⟩
theorem starts13 {k : Int} {T : ByteArray} {b : Bool} (h : sta (k, T) = b) (l c : Int) (w : World) : Calls Tryz.prog 14 #[.agg #[.int .i64 k, .string T, .int .i64 l, .int .i64 c]] w (Ret9 w (.bool b)) := by
 have H : Hid ((decide (k = 4) || (isg (k, T) 45 || (isg (k, T) 43 || isg (k, T) 40))) = b) := h
 clear h
 have X : Hid (Bx4 (w.alloc (.cells #[.int .i64 k, .string T, .int .i64 l, .int .i64 c] 39)) w.heap.size (.int .i64 k) (.string T) (.int .i64 l) (.int .i64 c)) := Bx4.newAt _ _ _ _ _ _ rfl
 have HB : Hid (Below w.heap.size w (w.alloc (.cells #[.int .i64 k, .string T, .int .i64 l, .int .i64 c] 39))) := (Below.refl _ _).alloc (Nat.le_refl _) _
 by_cases hk : k = 4
 ·have d : (k == 4) = true := by rw [hk]; rfl
  have E : Hid (true = b) := by show _ = _; rw [← H.out, decide_eq_true hk]; rfl
  clear hk
  go_enter Tryz.func14, Tryz.ntmps14
  go_wp2_with fail
  go_ret
  exact ⟨rb9 E.out, HB.out⟩
 ·have d : (k == 4) = false := by rw [beq_eq_false_iff_ne]; exact hk
  have H2 : Hid ((isg (k, T) 45 || (isg (k, T) 43 || isg (k, T) 40)) = b) := by show _ = _; rw [← H.out, decide_eq_false hk]; rfl
  clear hk
  cases h45 : isg (k, T) 45 with
  | true =>
   have G45 := Lib.hid h45
   have E : Hid (true = b) := by show _ = _; rw [← H2.out, h45]; rfl
   clear h45
   go_enter Tryz.func14, Tryz.ntmps14
   go_wp2_with fail
   refine (sign13 (s := ⟨#[45]⟩) rfl G45.out l c _).mono ?_; rintro e w1 ⟨rfl, hb⟩; replace HB := Lib.hid (HB.out.trans (hb.mono HB.out.size)); clear hb
   go_wp2_with fail
   go_ret
   exact ⟨rb9 E.out, HB.out⟩
  | false =>
   have G45 := Lib.hid h45
   have H3 : Hid ((isg (k, T) 43 || isg (k, T) 40) = b) := by show _ = _; rw [← H2.out, h45]; rfl
   clear h45
   cases h43 : isg (k, T) 43 with
   | true =>
    have G43 := Lib.hid h43
    have E : Hid (true = b) := by show _ = _; rw [← H3.out, h43]; rfl
    clear h43
    go_enter Tryz.func14, Tryz.ntmps14
    go_wp2_with fail
    refine (sign13 (s := ⟨#[45]⟩) rfl G45.out l c _).mono ?_; rintro e w1 ⟨rfl, hb⟩; replace X := Lib.hid (X.out.on hb); replace HB := Lib.hid (HB.out.trans (hb.mono HB.out.size)); clear hb
    obtain ⟨p0, p1, p2, p3, pf0, pf1, pf2, pf3, plt⟩ := X.out
    go_wp2_with fail
    refine (sign13 (s := ⟨#[43]⟩) rfl G43.out l c _).mono ?_; rintro e w2 ⟨rfl, hb⟩; replace HB := Lib.hid (HB.out.trans (hb.mono HB.out.size)); clear hb
    go_wp2_with fail
    go_ret
    exact ⟨rb9 E.out, HB.out⟩
   | false =>
    have G43 := Lib.hid h43
    have G40 : Hid (isg (k, T) 40 = b) := by show _ = _; rw [← H3.out, h43]; rfl
    clear h43
    go_enter Tryz.func14, Tryz.ntmps14
    go_wp2_with fail
    refine (sign13 (s := ⟨#[45]⟩) rfl G45.out l c _).mono ?_; rintro e w1 ⟨rfl, hb⟩; replace X := Lib.hid (X.out.on hb); replace HB := Lib.hid (HB.out.trans (hb.mono HB.out.size)); clear hb
    obtain ⟨p0, p1, p2, p3, pf0, pf1, pf2, pf3, plt⟩ := X.out
    go_wp2_with fail
    refine (sign13 (s := ⟨#[43]⟩) rfl G43.out l c _).mono ?_; rintro e w2 ⟨rfl, hb⟩; replace X := Lib.hid (X.out.on hb); replace HB := Lib.hid (HB.out.trans (hb.mono HB.out.size)); clear hb
    clear p0 p1 p2 p3 pf0 pf1 pf2 pf3 plt
    obtain ⟨p0, p1, p2, p3, pf0, pf1, pf2, pf3, plt⟩ := X.out
    go_wp2_with fail
    refine (sign13 (s := ⟨#[40]⟩) rfl G40.out l c _).mono ?_; rintro e w3 ⟨rfl, hb⟩; replace HB := Lib.hid (HB.out.trans (hb.mono HB.out.size)); clear hb
    go_wp2_with fail
    go_ret
    exact ⟨rfl, HB.out⟩
theorem after13 {w : World} {g n c a d e : Nat} {A : Option Addr} (hs : StB w g A n c a d e) (hn : n ≤ 1000) (ha : a ≤ 1000) {z : Nat} (hz : (if a < n then 3 else 2) = z) : Calls Tryz.prog 122 #[.pointer (some ⟨g, 0, none⟩)] w (Ret9 w (.int .i64 (z : Int))) := by
 obtain ⟨p0, p1, p2, p3, pf0, pf1, pf2, pf3, plt⟩ := hs.bx
 rcases Nat.lt_or_ge a n with h | h
 ·have dd : decide ((n : Int) ≤ (a : Int)) = false := decide_eq_false (by omega)
  rw [if_pos h] at hz
  subst hz
  clear hs
  go_enter Tryz.func122, Tryz.ntmps122
  go_wp2_with fail
  go_quiet (fail)
  go_wp2_with fail
  go_ret
  exact ⟨rfl, below_drewN (Below.refl _ _) _⟩
 ·have dd : decide ((n : Int) ≤ (a : Int)) = true := decide_eq_true (by omega)
  rw [if_neg (by omega)] at hz
  subst hz
  clear hs
  go_enter Tryz.func122, Tryz.ntmps122
  go_wp2_with fail
  go_quiet (fail)
  go_wp2_with fail
  go_ret
  exact ⟨rfl, below_drewN (Below.refl _ _) _⟩
def RetFail (w : World) (g : Nat) (A : Option Addr) (n c a d z : Nat) (e : Ending) (w' : World) : Prop := e = .returned (.agg #[.bool false, .slice none 0 0, .int .i64 0]) ∧ StB w' g A n c a d z ∧ Kp g none w w'
theorem fail13 {w : World} {g n c a d e z : Nat} {A : Option Addr} (hs : StB w g A n c a d e) (hz : 0 < z) (x : Nat) (hx : (if e = 0 then z else e) = x) : Calls Tryz.prog 83 #[.pointer (some ⟨g, 0, none⟩), .int .i64 (z : Int)] w (RetFail w g A n c a d x) := by
 have HS := Lib.hid hs
 have hb : Below w.heap.size w (w.alloc (.cells #[.bool false, .slice none 0 0, .int .i64 0] 26)) := (Below.refl _ _).alloc (Nat.le_refl _) _
 have HS2 := Lib.hid (hs.on hb)
 have KP := Lib.hid (kp_of (c := g) hb (Nat.le_refl _))
 have XR : Hid (Box (w.alloc (.cells #[.bool false, .slice none 0 0, .int .i64 0] 26)) w.heap.size (.bool false) (.slice none 0 0) (.int .i64 0)) := Box.new _ _ _ _ _
 have hg : g < w.heap.size := hs.lt
 clear hs hb
 obtain ⟨p0, p1, p2, p3, pf0, pf1, pf2, pf3, plt⟩ := HS.out.bx
 rcases Nat.eq_zero_or_pos e with he | he
 ·rw [if_pos he] at hx
  subst hx
  have de : ((e : Int) == 0) = true := by rw [he]; rfl
  clear he
  go_enter Tryz.func83, Tryz.ntmps83
  go_wp2_with fail
  exact bodyPost_ret (v := .agg #[.bool false, .slice none 0 0, .int .i64 0]) (by simp [results, Tryz.results83, go_sem]) rfl ⟨rfl, (HS.out.set3 z).on ((Below.refl _ _).alloc (Nat.le_refl _) _), kp_trans (kp_set _ _ _ _) (kp_of ((Below.refl _ _).alloc (Nat.le_refl _) _) (Nat.le_refl _))⟩
 ·rw [if_neg (by omega)] at hx
  subst hx
  have de : ((e : Int) == 0) = false := by rw [beq_eq_false_iff_ne]; omega
  clear he
  go_enter Tryz.func83, Tryz.ntmps83
  go_wp2_with fail
  exact bodyPost_ret (v := .agg #[.bool false, .slice none 0 0, .int .i64 0]) (by simp [results, Tryz.results83, go_sem]) rfl ⟨rfl, HS2.out, KP.out⟩
theorem isAt_some {L : List Tk4} {a x : Nat} {t : Tk4} (h : L[a]? = some t) : isAt (L.map tok) a x = isg (t.1, t.2.1) x := by
 unfold isAt; rw [List.getElem?_map, h]; rfl
theorem isAt_none {L : List Tk4} {a x : Nat} (h : L.length ≤ a) : isAt (L.map tok) a x = false := by
 unfold isAt; rw [List.getElem?_map, List.getElem?_eq_none h]; rfl
section
variable {P : Program} {ops : Array Oper} {Q : Exit → Act → World → Prop} {S : World → Prop} {N : Nat} {T : List Row3} {sts sos : List Spot3} (R : Reg ops T sts sos)
include R
end
section
variable {o : Oper} {ρ : Operand → Value} {x y : Operand} {w : World}
def okF13 (P : Program) (f : FuncId) : Bool := match P.funcs[f]? with
 | some fn => !(fn.name == "runtime.NumGoroutine") && !fn.body.isNone
 | none => false
theorem run_enter13 {P : Program} {f : FuncId} {args : Array Value} (h : okF13 P f = true) : (callFunc f args).run P w = .ok (.enter f args) w := by
 unfold okF13 at h
 cases hf : P.funcs[f]? with
 | none => rw [hf] at h; cases h
 | some fn =>
  rw [hf] at h
  obtain ⟨h1, h2⟩ := Bool.and_eq_true_iff.1 h
  have h1 : (fn.name == "runtime.NumGoroutine") = false := by simpa using h1
  have h2 : fn.body.isNone = false := by simpa using h2
  unfold callFunc
  simp only [Sem.run_bind, run_program, Result.andThen_ok, hf, h1, h2, Bool.false_eq_true, if_false, ite_false, Sem.run_pure]
theorem e_call13 {f : FuncId} {xs : Array Operand} {ts : Array TypeId} {args : Array Value} (hk : okF13 Tryz.prog f = true) (h : o.op = .call { callee := .value (.func f), args := xs, argTypes := ts }) (hf : ρ (.func f) = .func (.func f) #[] #[]) (hx : xs.map ρ = args) : (execOp ρ o).run Tryz.prog w = .ok (.enter f args) w := by
 unfold execOp; rw [h]
 simp only [resolve, hf, hx]
 go_simp
 exact run_enter13 hk
theorem e_nil13 {p : Addr} (h : o.op = .nilCheck x) (hx : ρ x = .pointer (some p)) : (execOp ρ o).run Tryz.prog w = .ok (.value (.pointer (some p))) w := by
 unfold execOp; rw [h]
 simp only [hx]
 go_simp
theorem e_fieldS13 {g k : Nat} (h : o.op = .fieldAddr 57 x k) (hk : k = 0 ∨ k = 1 ∨ k = 2 ∨ k = 3) (hx : ρ x = .pointer (some ⟨g, 0, none⟩)) : (execOp ρ o).run Tryz.prog w = .ok (.value (.pointer (some ⟨g, k, none⟩))) w := by
 unfold execOp; rw [h]
 simp only [hx]
 rcases hk with rfl | rfl | rfl | rfl <;> go_simp
theorem e_loadI13 {g k : Nat} {v : Int} (h : o.op = .load 3 x) (hx : ρ x = .pointer (some ⟨g, k, none⟩)) (hc : w.cell? ⟨g, k, none⟩ = some (.int .i64 v)) : (execOp ρ o).run Tryz.prog w = .ok (.value (.int .i64 v)) w := by
 unfold execOp; rw [h]
 simp only [hx]
 go_simp
theorem e_loadL13 {g k n c : Nat} {A : Option Addr} (h : o.op = .load 22 x) (hx : ρ x = .pointer (some ⟨g, k, none⟩)) (hc : w.cell? ⟨g, k, none⟩ = some (.slice A n c)) : (execOp ρ o).run Tryz.prog w = .ok (.value (.slice A n c)) w := by
 unfold execOp; rw [h]
 simp only [hx]
 go_simp
theorem e_len13 {n c : Nat} {A : Option Addr} (h : o.op = .call { callee := .builtin .len, args := #[x], argTypes := #[22] }) (hx : ρ x = .slice A n c) : (execOp ρ o).run Tryz.prog w = .ok (.value (.int .i64 (n : Int))) w := by
 unfold execOp; rw [h]
 simp only [List.map_toArray, List.map_cons, List.map_nil, hx]
 go_simp
theorem e_lss13 {i j : Int} {b : Bool} {t t' : TypeId} (hb : decide (i < j) = b) (h : o.op = .binOp .lss t x y t') (hx : ρ x = .int .i64 i) (hy : ρ y = .int .i64 j) : (execOp ρ o).run Tryz.prog w = .ok (.value (.bool b)) w := by
 subst hb
 unfold execOp; rw [h]
 simp only [hx, hy]
 go_simp
theorem e_idx13 {b o' n c k : Nat} (hk : k < n) (h : o.op = .indexAddr 22 x y) (hx : ρ x = .slice (some ⟨b, o', none⟩) n c) (hy : ρ y = .int .i64 (k : Int)) : (execOp ρ o).run Tryz.prog w = .ok (.value (.pointer (some ⟨b, o' + k * 4, none⟩))) w := by
 have h2 : (k : Int) < (n : Int) := by omega
 unfold execOp; rw [h]
 simp only [hx, hy]
 go_simp
theorem e_loadT13 {b o' : Nat} {k l m : Int} {T : ByteArray} (h : o.op = .load 39 x) (hx : ρ x = .pointer (some ⟨b, o', none⟩)) (c0 : w.cell? ⟨b, o', none⟩ = some (.int .i64 k)) (c1 : w.cell? ⟨b, o' + 1, none⟩ = some (.string T)) (c2 : w.cell? ⟨b, o' + 2, none⟩ = some (.int .i64 l)) (c3 : w.cell? ⟨b, o' + 3, none⟩ = some (.int .i64 m)) :
  (execOp ρ o).run Tryz.prog w = .ok (.value (.agg #[.int .i64 k, .string T, .int .i64 l, .int .i64 m])) w := by
 unfold execOp; rw [h]
 simp only [hx]
 go_simp
theorem e_not13 {b : Bool} {t : TypeId} (h : o.op = .unOp .not t x) (hx : ρ x = .bool b) : (execOp ρ o).run Tryz.prog w = .ok (.value (.bool (!b))) w := by
 unfold execOp; rw [h]
 simp only [hx]
 go_simp
end
theorem some_addr {q o q' o' : Nat} (h : (some (⟨q, o, none⟩ : Addr)) = some ⟨q', o', none⟩) : q' = q ∧ o' = o := by
 injection h with h
 injection h with h1 h2
 exact ⟨h1.symm, h2.symm⟩
def is13T : List Row3 := [(some 5, none, .move (.tmp 0)), (some 6, none, .nilCheck (.tmp 5)), (some 7, none, .fieldAddr 57 (.tmp 6) 1), (some 8, none, .load 3 (.tmp 7)), (some 9, none, .move (.tmp 0)), (some 10, none, .nilCheck (.tmp 9)), (some 11, none, .fieldAddr 57 (.tmp 10) 0), (some 12, none, .load 22 (.tmp 11)), (some 13, none, .call { callee := .builtin .len, args := #[.tmp 12], argTypes := #[22] }), (some 14, none, .binOp .lss 3 (.tmp 8) (.tmp 13) 3), (some 15, none, .move (.tmp 14)), (some 16, some (10, true), .move (.tmp 0)), (some 17, some (10, true), .nilCheck (.tmp 16)), (some 18, some (10, true), .fieldAddr 57 (.tmp 17) 0), (some 19, some (10, true), .load 22 (.tmp 18)), (some 20, some (10, true), .move (.tmp 0)), (some 21, some (10, true), .nilCheck (.tmp 20)), (some 22, some (10, true), .fieldAddr 57 (.tmp 21) 1), (some 23, some (10, true), .load 3 (.tmp 22)), (some 24, some (10, true), .indexAddr 22 (.tmp 19) (.tmp 23)), (some 25, some (10, true), .load 39 (.tmp 24)), (some 26, some (10, true), .move (.tmp 1)), (some 27, some (10, true), .call { callee := .value (.func 32), args := #[.tmp 25, .tmp 26], argTypes := #[39, 9] }), (some 28, none, .pick (.tmp 15) (.tmp 27) (.const (.bool false))), (some 4, none, .assign (.tmp 28))]
theorem is13Row : (opsAt Tryz.prog 49 1).toList.map row3 = is13T := by kernel_rfl
theorem is13Sel : Region.noSelect (opsAt Tryz.prog 49 1) = true := by kernel_rfl
theorem is13Done : Region.ready .any (opsAt Tryz.prog 49 1) (upto (opsAt Tryz.prog 49 1).size (opsAt Tryz.prog 49 1).size []) = [] := by kernel_rfl
theorem is13still0 : [(0, [], 0), (1, [], 1), (2, [], 2), (3, [], 3), (4, [], 4), (5, [], 5), (6, [], 6), (7, [], 7), (8, [], 8), (9, [], 9)].all (stillB (opsAt Tryz.prog 49 1)) = true := by kernel_rfl
theorem is13still1 : [(10, [], 10), (11, [], 11), (12, [], 12), (13, [], 13), (14, [], 14), (15, [], 15), (16, [], 16), (17, [], 17), (18, [], 18), (19, [], 19)].all (stillB (opsAt Tryz.prog 49 1)) = true := by kernel_rfl
theorem is13still2 : [(20, [], 20), (21, [], 21), (23, [], 23), (24, [], 24)].all (stillB (opsAt Tryz.prog 49 1)) = true := by kernel_rfl
theorem is13sole0 : [(22, [], 22)].all (soleB (opsAt Tryz.prog 49 1)) = true := by kernel_rfl
theorem is13R : Reg (opsAt Tryz.prog 49 1) is13T [(0, [], 0), (1, [], 1), (2, [], 2), (3, [], 3), (4, [], 4), (5, [], 5), (6, [], 6), (7, [], 7), (8, [], 8), (9, [], 9), (10, [], 10), (11, [], 11), (12, [], 12), (13, [], 13), (14, [], 14), (15, [], 15), (16, [], 16), (17, [], 17), (18, [], 18), (19, [], 19), (20, [], 20), (21, [], 21), (23, [], 23), (24, [], 24)] [(22, [], 22)] := ⟨is13Row, is13Sel, (all_parts is13still0 (all_parts is13still1 (all_parts is13still2 (fun k h => by cases h)))), (all_parts is13sole0 (fun k h => by cases h)), is13Done⟩
theorem is13 {w : World} {g B n c i d e : Nat} {A : Option Addr} {L : List Tk4} (hs : StB w g A n c i d e) (hr : RdK w B A n c L) (hB : B ≤ w.heap.size) (hn : n ≤ 1000) (hi : i ≤ 1000) {s : ByteArray} {x : Nat} {b : Bool} (hx : bs9 s = [x]) (h : isAt (L.map tok) i x = b) :
  Calls Tryz.prog 49 #[.pointer (some ⟨g, 0, none⟩), .string s] w (Ret9 w (.bool b)) := by
 have hlen := hr.len
 have HX := Lib.hid hx
 have hBw : B ≤ w.heap.size := hB
 rcases Nat.lt_or_ge i n with hlt | hge
 ·obtain ⟨t, ht⟩ : ∃ t, L[i]? = some t := ⟨_, List.getElem?_eq_getElem (by omega)⟩
  rw [isAt_some ht] at h
  obtain ⟨q, u0, rfl, h1, h2, h3, h4, -⟩ := hr.at_ ht
  obtain ⟨k, T, l, m⟩ := t
  have H := Lib.hid h
  have dd : decide ((i : Int) < (n : Int)) = true := decide_eq_true (by omega)
  have HD : Hid (Below w.heap.size w w ∧ StB w g (some ⟨q, u0, none⟩) n c i d e ∧ RdK w B (some ⟨q, u0, none⟩) n c L) := ⟨Below.refl _ _, hs, hr⟩
  clear hs hr h hx hlen h3 hB
  go_enter Tryz.func49, Tryz.ntmps49
  go_wp2_with fail
  rename_i K hK
  refine line_start (ops := opsAt Tryz.prog 49 1) (S := fun v : World => Below w.heap.size w v ∧ StB v g (some ⟨q, u0, none⟩) n c i d e ∧ RdK v B (some ⟨q, u0, none⟩) n c L) (by kernel_rfl) (by kernel_rfl) (⟨(Below.refl _ _).drew, HD.out.2.1.on (Below.refl _ _).drew, HD.out.2.2.on hBw (Below.refl _ _).drew⟩) ?_
  have hSw : (fun v : World => Below w.heap.size w v ∧ StB v g (some ⟨q, u0, none⟩) n c i d e ∧ RdK v B (some ⟨q, u0, none⟩) n c L) w.drew := ⟨(Below.refl _ _).drew, HD.out.2.1.on (Below.refl _ _).drew, HD.out.2.2.on hBw (Below.refl _ _).drew⟩
  generalize hA : Act.mk _ _ = a
  have ha : Fr 29 a [(0, .pointer (some ⟨g, 0, none⟩)), (1, .string s)] := by rw [← hA]; exact ⟨rfl, rfl, by intro q hq; simp at hq; rcases hq with rfl | rfl <;> rfl⟩
  clear hA
  refine line_still is13R 0 0 [] 5 (.pointer (some ⟨g, 0, none⟩)) [(0, .pointer (some ⟨g, 0, none⟩)), (1, .string s)] rfl (by decide) (by decide) (by decide) ha (fun o ho hg => y_of (wanted_none hg) (fun wx hS => e_move (.inl ho) (ha.ev (i := 0) (v := .pointer (some ⟨g, 0, none⟩)) (by simp)))) (by simp) hSw ?_; intro a ha
  refine line_still is13R 1 1 [] 6 (.pointer (some ⟨g, 0, none⟩)) [(0, .pointer (some ⟨g, 0, none⟩)), (1, .string s)] rfl (by decide) (by decide) (by decide) ha (fun o ho hg => y_of (wanted_none hg) (fun wx hS => e_nil13 ho (ha.ev (i := 5) (v := .pointer (some ⟨g, 0, none⟩)) (by simp)))) (by simp) hSw ?_; intro a ha
  refine line_still is13R 2 2 [] 7 (.pointer (some ⟨g, 1, none⟩)) [(0, .pointer (some ⟨g, 0, none⟩)), (1, .string s)] rfl (by decide) (by decide) (by decide) ha (fun o ho hg => y_of (wanted_none hg) (fun wx hS => e_fieldS13 ho (by simp) (ha.ev (i := 6) (v := .pointer (some ⟨g, 0, none⟩)) (by simp)))) (by simp) hSw ?_; intro a ha
  refine line_still is13R 3 3 [] 8 (.int .i64 (i : Int)) [(0, .pointer (some ⟨g, 0, none⟩)), (1, .string s)] rfl (by decide) (by decide) (by decide) ha (fun o ho hg => y_of (wanted_none hg) (fun wx hS => e_loadI13 ho (ha.ev (i := 7) (v := .pointer (some ⟨g, 1, none⟩)) (by simp)) hS.2.1.bx.c1)) (by simp) hSw ?_; intro a ha
  refine line_still is13R 4 4 [] 9 (.pointer (some ⟨g, 0, none⟩)) [(8, .int .i64 (i : Int)), (0, .pointer (some ⟨g, 0, none⟩)), (1, .string s)] rfl (by decide) (by decide) (by decide) ha (fun o ho hg => y_of (wanted_none hg) (fun wx hS => e_move (.inl ho) (ha.ev (i := 0) (v := .pointer (some ⟨g, 0, none⟩)) (by simp)))) (by simp) hSw ?_; intro a ha
  refine line_still is13R 5 5 [] 10 (.pointer (some ⟨g, 0, none⟩)) [(8, .int .i64 (i : Int)), (0, .pointer (some ⟨g, 0, none⟩)), (1, .string s)] rfl (by decide) (by decide) (by decide) ha (fun o ho hg => y_of (wanted_none hg) (fun wx hS => e_nil13 ho (ha.ev (i := 9) (v := .pointer (some ⟨g, 0, none⟩)) (by simp)))) (by simp) hSw ?_; intro a ha
  refine line_still is13R 6 6 [] 11 (.pointer (some ⟨g, 0, none⟩)) [(8, .int .i64 (i : Int)), (0, .pointer (some ⟨g, 0, none⟩)), (1, .string s)] rfl (by decide) (by decide) (by decide) ha (fun o ho hg => y_of (wanted_none hg) (fun wx hS => e_fieldS13 ho (by simp) (ha.ev (i := 10) (v := .pointer (some ⟨g, 0, none⟩)) (by simp)))) (by simp) hSw ?_; intro a ha
  refine line_still is13R 7 7 [] 12 (.slice (some ⟨q, u0, none⟩) n c) [(8, .int .i64 (i : Int)), (0, .pointer (some ⟨g, 0, none⟩)), (1, .string s)] rfl (by decide) (by decide) (by decide) ha (fun o ho hg => y_of (wanted_none hg) (fun wx hS => e_loadL13 ho (ha.ev (i := 11) (v := .pointer (some ⟨g, 0, none⟩)) (by simp)) hS.2.1.bx.c0)) (by simp) hSw ?_; intro a ha
  refine line_still is13R 8 8 [] 13 (.int .i64 (n : Int)) [(8, .int .i64 (i : Int)), (0, .pointer (some ⟨g, 0, none⟩)), (1, .string s)] rfl (by decide) (by decide) (by decide) ha (fun o ho hg => y_of (wanted_none hg) (fun wx hS => e_len13 ho (ha.ev (i := 12) (v := .slice (some ⟨q, u0, none⟩) n c) (by simp)))) (by simp) hSw ?_; intro a ha
  refine line_still is13R 9 9 [] 14 (.bool true) [(0, .pointer (some ⟨g, 0, none⟩)), (1, .string s)] rfl (by decide) (by decide) (by decide) ha (fun o ho hg => y_of (wanted_none hg) (fun wx hS => e_lss13 dd ho (ha.ev (i := 8) (v := .int .i64 (i : Int)) (by simp)) (ha.ev (i := 13) (v := .int .i64 (n : Int)) (by simp)))) (by simp) hSw ?_; intro a ha
  refine line_still is13R 10 10 [] 15 (.bool true) [(0, .pointer (some ⟨g, 0, none⟩)), (1, .string s)] rfl (by decide) (by decide) (by decide) ha (fun o ho hg => y_of (wanted_none hg) (fun wx hS => e_move (.inl ho) (ha.ev (i := 14) (v := .bool true) (by simp)))) (by simp) hSw ?_; intro a ha
  refine line_still is13R 11 11 [] 16 (.pointer (some ⟨g, 0, none⟩)) [(15, .bool true), (0, .pointer (some ⟨g, 0, none⟩)), (1, .string s)] rfl (by decide) (by decide) (by decide) ha (fun o ho hg => y_of (is13R.wanted hg rfl ha (d := 15) (by simp)) (fun wx hS => e_move (.inl ho) (ha.ev (i := 0) (v := .pointer (some ⟨g, 0, none⟩)) (by simp)))) (by simp) hSw ?_; intro a ha
  refine line_still is13R 12 12 [] 17 (.pointer (some ⟨g, 0, none⟩)) [(15, .bool true), (0, .pointer (some ⟨g, 0, none⟩)), (1, .string s)] rfl (by decide) (by decide) (by decide) ha (fun o ho hg => y_of (is13R.wanted hg rfl ha (d := 15) (by simp)) (fun wx hS => e_nil13 ho (ha.ev (i := 16) (v := .pointer (some ⟨g, 0, none⟩)) (by simp)))) (by simp) hSw ?_; intro a ha
  refine line_still is13R 13 13 [] 18 (.pointer (some ⟨g, 0, none⟩)) [(15, .bool true), (0, .pointer (some ⟨g, 0, none⟩)), (1, .string s)] rfl (by decide) (by decide) (by decide) ha (fun o ho hg => y_of (is13R.wanted hg rfl ha (d := 15) (by simp)) (fun wx hS => e_fieldS13 ho (by simp) (ha.ev (i := 17) (v := .pointer (some ⟨g, 0, none⟩)) (by simp)))) (by simp) hSw ?_; intro a ha
  refine line_still is13R 14 14 [] 19 (.slice (some ⟨q, u0, none⟩) n c) [(15, .bool true), (0, .pointer (some ⟨g, 0, none⟩)), (1, .string s)] rfl (by decide) (by decide) (by decide) ha (fun o ho hg => y_of (is13R.wanted hg rfl ha (d := 15) (by simp)) (fun wx hS => e_loadL13 ho (ha.ev (i := 18) (v := .pointer (some ⟨g, 0, none⟩)) (by simp)) hS.2.1.bx.c0)) (by simp) hSw ?_; intro a ha
  refine line_still is13R 15 15 [] 20 (.pointer (some ⟨g, 0, none⟩)) [(19, .slice (some ⟨q, u0, none⟩) n c), (15, .bool true), (1, .string s)] rfl (by decide) (by decide) (by decide) ha (fun o ho hg => y_of (is13R.wanted hg rfl ha (d := 15) (by simp)) (fun wx hS => e_move (.inl ho) (ha.ev (i := 0) (v := .pointer (some ⟨g, 0, none⟩)) (by simp)))) (by simp) hSw ?_; intro a ha
  refine line_still is13R 16 16 [] 21 (.pointer (some ⟨g, 0, none⟩)) [(19, .slice (some ⟨q, u0, none⟩) n c), (15, .bool true), (1, .string s)] rfl (by decide) (by decide) (by decide) ha (fun o ho hg => y_of (is13R.wanted hg rfl ha (d := 15) (by simp)) (fun wx hS => e_nil13 ho (ha.ev (i := 20) (v := .pointer (some ⟨g, 0, none⟩)) (by simp)))) (by simp) hSw ?_; intro a ha
  refine line_still is13R 17 17 [] 22 (.pointer (some ⟨g, 1, none⟩)) [(19, .slice (some ⟨q, u0, none⟩) n c), (15, .bool true), (1, .string s)] rfl (by decide) (by decide) (by decide) ha (fun o ho hg => y_of (is13R.wanted hg rfl ha (d := 15) (by simp)) (fun wx hS => e_fieldS13 ho (by simp) (ha.ev (i := 21) (v := .pointer (some ⟨g, 0, none⟩)) (by simp)))) (by simp) hSw ?_; intro a ha
  refine line_still is13R 18 18 [] 23 (.int .i64 (i : Int)) [(19, .slice (some ⟨q, u0, none⟩) n c), (15, .bool true), (1, .string s)] rfl (by decide) (by decide) (by decide) ha (fun o ho hg => y_of (is13R.wanted hg rfl ha (d := 15) (by simp)) (fun wx hS => e_loadI13 ho (ha.ev (i := 22) (v := .pointer (some ⟨g, 1, none⟩)) (by simp)) hS.2.1.bx.c1)) (by simp) hSw ?_; intro a ha
  refine line_still is13R 19 19 [] 24 (.pointer (some ⟨q, u0 + i * 4, none⟩)) [(15, .bool true), (1, .string s)] rfl (by decide) (by decide) (by decide) ha (fun o ho hg => y_of (is13R.wanted hg rfl ha (d := 15) (by simp)) (fun wx hS => e_idx13 hlt ho (ha.ev (i := 19) (v := .slice (some ⟨q, u0, none⟩) n c) (by simp)) (ha.ev (i := 23) (v := .int .i64 (i : Int)) (by simp)))) (by simp) hSw ?_; intro a ha
  refine line_still is13R 20 20 [] 25 (.agg #[.int .i64 k, .string T, .int .i64 l, .int .i64 m]) [(15, .bool true), (1, .string s)] rfl (by decide) (by decide) (by decide) ha (fun o ho hg => y_of (is13R.wanted hg rfl ha (d := 15) (by simp)) (fun wx hS => (by obtain ⟨_, _, hA, _, _, _, _, z0, z1, z2, z3⟩ := hS.2.2.at_ ht; obtain ⟨y1, y2⟩ := some_addr hA; rw [y1, y2] at z0 z1 z2 z3; exact e_loadT13 ho (ha.ev (i := 24) (v := .pointer (some ⟨q, u0 + i * 4, none⟩)) (by simp)) z0 z1 z2 z3))) (by simp) hSw ?_; intro a ha
  refine line_still is13R 21 21 [] 26 (.string s) [(25, .agg #[.int .i64 k, .string T, .int .i64 l, .int .i64 m]), (15, .bool true)] rfl (by decide) (by decide) (by decide) ha (fun o ho hg => y_of (is13R.wanted hg rfl ha (d := 15) (by simp)) (fun wx hS => e_move (.inl ho) (ha.ev (i := 1) (v := .string s) (by simp)))) (by simp) hSw ?_; intro a ha
  refine line_call is13R 22 22 [] 27 (args := #[.agg #[.int .i64 k, .string T, .int .i64 l, .int .i64 m], .string s]) [(15, .bool true)] rfl (by decide) (by decide) (by decide) ha (fun o ho hg => ⟨(is13R.wanted hg rfl ha (d := 15) (by simp)), e_call13 (by kernel_rfl) ho rfl (by have q0 := ha.ev (i := 25) (v := .agg #[.int .i64 k, .string T, .int .i64 l, .int .i64 m]) (by simp); have q1 := ha.ev (i := 26) (v := .string s) (by simp); simp only [List.map_toArray, List.map_cons, List.map_nil, ev_const, q0, q1])⟩) (by simp) ?_
  refine (sign13 HX.out H.out l m _).mono ?_; rintro e w1 ⟨rfl, hb⟩
  have hSw : (fun v : World => Below w.heap.size w v ∧ StB v g (some ⟨q, u0, none⟩) n c i d e ∧ RdK v B (some ⟨q, u0, none⟩) n c L) w1 := ⟨(HD.out.1.trans (Below.drew (Below.refl _ _))).trans (hb.mono (by simp)), HD.out.2.1.on ((Below.drew (Below.refl _ _)).trans hb), HD.out.2.2.on (by exact hBw) ((Below.drew (Below.refl _ _)).trans hb)⟩
  clear hb
  refine ⟨_, rfl, hSw, ?_⟩; intro a ha
  refine line_still is13R 23 23 [] 28 (.bool b) [] rfl (by decide) (by decide) (by decide) ha (fun o ho hg => y_of (wanted_none hg) (fun wx hS => e_pick ho (ha.ev (i := 15) (v := .bool true) (by simp)) (ha.ev (i := 27) (v := .bool b) (by simp)) rfl)) (by simp) hSw ?_; intro a ha
  refine line_still is13R 24 24 [] 4 (.bool b) [] rfl (by decide) (by decide) (by decide) ha (fun o ho hg => y_of (wanted_none hg) (fun wx hS => e_move (.inr ho) (ha.ev (i := 28) (v := .bool b) (by simp)))) (by simp) hSw ?_; intro a ha
  refine line_end is13R rfl ?_
  simp only [Exit.then]
  refine hK _ _ ?_
  go_wp2
  exact bodyPost_ret (v := .bool b) (by have := ha.2.2 (4, .bool b) (by simp); simp [results, Tryz.results49, go_sem, Array.getD_eq_getD_getElem?, this]) ha.2.1 ⟨rfl, hSw.1⟩
 ·obtain ⟨p0, p1, p2, p3, pf0, pf1, pf2, pf3, plt⟩ := hs.bx
  have E : Hid (false = b) := by show _ = _; rw [← h, isAt_none (by omega)]
  have dd : decide ((i : Int) < (n : Int)) = false := decide_eq_false (by omega)
  have dd2 : decide (i < n) = false := decide_eq_false (by omega)
  have dd3 : decide (n ≤ i) = true := decide_eq_true hge
  clear hs hr h hx hlen
  go_enter Tryz.func49, Tryz.ntmps49
  go_wp2_with fail
  go_quiet (fail)
  go_wp2_with fail
  go_ret
  exact ⟨rb9 E.out, below_drewN (Below.refl _ _) _⟩
def OutR (d F : Nat) (x : Int) (k i' d' e' : Nat) : Rs → Prop
 | .inl (z, b) => 0 < z ∧ e' = z ∧ i' = b ∧ Sz x k F ∧ k ≤ 4010 ∧ d ≤ d' ∧ d' ≤ 64
 | .inr (y, t, b) => x = y ∧ k = t ∧ i' = b ∧ d' = d ∧ e' = 0
def RetF (w0 : World) (g : Nat) (A : Option Addr) (n c d F : Nat) (r : Rs) (e : Ending) (w' : World) : Prop :=
 ∃ (x : Int) (k : Nat) (A1 : Option Addr) (n1 c1 i' d' e' : Nat), e = .returned (.agg #[.bool (ngB x), .slice A1 n1 c1, .int .i64 (k : Int)]) ∧ Num w' w'.heap.size A1 n1 c1 x.natAbs ∧ StB w' g A n c i' d' e' ∧ Kp g none w0 w' ∧ OutR d F x k i' d' e' r
theorem num_zero (w : World) (B : Nat) : Num w B none 0 0 0 := by
 show Lim _ _ _ _ _ (dg 0)
 rw [dg_zero]; exact Lim.nil
theorem out_none {d F i z : Nat} (hz : 0 < z) (hd : d ≤ 64) : OutR d F 0 0 i d z (.inl (z, i)) := ⟨hz, rfl, rfl, by unfold Sz; exact Nat.pow_pos (by omega), Nat.zero_le _, Nat.le_refl _, hd⟩
theorem SX.facts {w0 w : World} {g B n c i d e : Nat} {A : Option Addr} {L : List Tk4} {l : List (Option Addr × Nat × Nat × Nat)} {bs : List (Nat × Value × Value × Value)} (h : Hid (SX w0 w g B A n c L i d e l bs)) :
 Bx4 w g (.slice A n c) (.int .i64 (i : Int)) (.int .i64 (d : Int)) (.int .i64 (e : Int)) := h.out.st.bx
def RetP (w0 : World) (s : ByteArray) (e : Ending) (w' : World) : Prop := ∃ (x : Int) (k : Nat) (A1 : Option Addr) (n1 c1 z : Nat), e = .returned (.tuple #[.agg #[.bool (ngB x), .slice A1 n1 c1, .int .i64 (k : Int)], .int .i64 (z : Int)]) ∧ Num w' w'.heap.size A1 n1 c1 x.natAbs ∧ Below w0.heap.size w0 w' ∧ numV s = if z = 0 then some (x, k) else none
theorem parse13 (s : ByteArray) (w : World) (hs : s.size ≤ 1000) : Calls Tryz.prog 121 #[.string s] w (RetP w s) := by
 refine (refRead_any s w hs).mono fun e w' h => ?_
 have h0 : Num w' w'.heap.size none 0 0 (0 : Int).natAbs := num_zero _ _
 rcases h with ⟨h1, h2⟩ | ⟨h1, h2, h3⟩ | ⟨h1, h2, A, n, c, h3, h4, h5⟩
 ·exact ⟨0, 0, none, 0, 0, 2, h2.1, h0, h2.2, by unfold numV; rw [if_neg (fun e => e.1 h1)]; rfl⟩
 ·exact ⟨0, 0, none, 0, 0, 3, h3.1, h0, h3.2, by unfold numV; rw [if_neg (fun e => by rw [h2] at e; cases e.2)]; rfl⟩
 ·exact ⟨_, _, A, n, c, 0, h3, h4, h5, by unfold numV; rw [if_pos ⟨h1, h2⟩]; rfl⟩
theorem fac_start {w : World} {g B n c i d e : Nat} {A : Option Addr} {L : List Tk4} (hs : StB w g A n c i d e) (hr : RdK w B A n c L) (hp : B ≤ g) :
 SX w (w.alloc (.cells #[.bool false, .slice none 0 0, .int .i64 0] 26)) g B A n c L i d e [] [(w.heap.size, .bool false, .slice none 0 0, .int .i64 0)] := (SX.start hs hr hp).lay rfl
theorem fac_end {w : World} {g B n c i d : Nat} {A : Option Addr} {L : List Tk4} (hs : StB w g A n c i d 0) (hr : RdK w B A n c L) (hp : B ≤ g) (hn : n ≤ 200) (hd : d ≤ 64) (hi : i = n) : Calls Tryz.prog 81 #[.pointer (some ⟨g, 0, none⟩)] w (RetF w g A n c d (4210 - d) (FAC (L.map tok) d i)) := by
 have hlen := hr.len
 have hgw := hs.lt
 have E := Lib.hid (fac_start hs hr hp)
 have FQ : Hid (FAC (L.map tok) d i = .inl (2, i)) := FAC_none (by rw [List.length_map]; omega)
 have d1 : decide ((n : Int) ≤ (i : Int)) = true := decide_eq_true (by omega)
 have d2 : decide (n ≤ i) = true := decide_eq_true (by omega)
 clear hs hr
 go_enter Tryz.func81, Tryz.ntmps81
 obtain ⟨p0, p1, p2, p3, pf0, pf1, pf2, pf3, plt⟩ := SX.facts E
 go_wp2_with fail
 go_quiet (fail)
 replace E := Lib.hid (SX.step E.out (below_drewN (Below.refl _ _) nq))
 go_wp2_with fail
 clear p0 p1 p2 p3 pf0 pf1 pf2 pf3 plt
 refine (fail13 E.out.st (z := 2) (by omega) 2 (by rfl)).mono ?_; rintro e w9 ⟨rfl, hst, hkp⟩
 replace E := Lib.hid (SX.call E.out hkp hst); clear hst hkp
 obtain ⟨r0, r1, r2, rf0, rf1, rf2, rlt⟩ := SX.az (g1 := w.heap.size) E (by simp)
 go_wp2_with fail
 clear r0 r1 r2 rf0 rf1 rf2 rlt
 have EF := Lib.hid (SX.sz E.out (g1 := w.heap.size) (by simp) (.bool false) (.slice none 0 0) (.int .i64 0))
 obtain ⟨r0, r1, r2, _, _, _, _⟩ := SX.az (g1 := w.heap.size) EF (by simp)
 exact bodyPost_ret (v := .agg #[.bool false, .slice none 0 0, .int .i64 0]) (by simp [results, Tryz.results81, go_sem, r0, r1, r2]) rfl ⟨0, 0, none, 0, 0, _, _, _, rfl, num_zero _ _, EF.out.st, EF.out.kp, by rw [FQ.out]; exact out_none (by omega) hd⟩
theorem tok_cells {w : World} {B n c i q u0 : Nat} {L : List Tk4} {k l m : Int} {T : ByteArray} (h : RdK w B (some ⟨q, u0, none⟩) n c L) (ht : L[i]? = some (k, T, l, m)) : w.cell? ⟨q, u0 + i * 4, none⟩ = some (.int .i64 k) ∧ w.cell? ⟨q, u0 + i * 4 + 1, none⟩ = some (.string T) ∧ w.cell? ⟨q, u0 + i * 4 + 2, none⟩ = some (.int .i64 l) ∧ w.cell? ⟨q, u0 + i * 4 + 3, none⟩ = some (.int .i64 m) := by
 obtain ⟨q9, u9, hA9, _, _, _, _, a0, a1, a2, a3⟩ := h.at_ ht
 obtain ⟨y1, y2⟩ := some_addr hA9
 rw [y1, y2] at a0 a1 a2 a3
 exact ⟨a0, a1, a2, a3⟩
theorem fac_num {w : World} {g B n c i d : Nat} {A : Option Addr} {L : List Tk4} (hs : StB w g A n c i d 0) (hr : RdK w B A n c L) (hp : B ≤ g) (hn : n ≤ 200) (hd : d ≤ 64) {t : Tk4} (ht : L[i]? = some t) (hk : t.1 = 4) (hT : t.2.1.size ≤ 30) : Calls Tryz.prog 81 #[.pointer (some ⟨g, 0, none⟩)] w (RetF w g A n c d (4210 - d) (FAC (L.map tok) d i)) := by
 have hlen := hr.len
 have hgw := hs.lt
 have E := Lib.hid (fac_start hs hr hp)
 have FQ := Lib.hid (FAC_num (L := L.map tok) (d := d) (a := i) (t := tok t) (by rw [List.getElem?_map, ht]; rfl) hk)
 obtain ⟨q, u0, rfl, h1, h2, h3, h4, -⟩ := hr.at_ ht
 obtain ⟨k, T, l, m⟩ := t
 have dk : (k == 4) = true := by rw [beq_iff_eq]; exact hk
 have d1 : decide ((n : Int) ≤ (i : Int)) = false := decide_eq_false (by omega)
 have d2 : decide (n ≤ i) = false := decide_eq_false (by omega)
 have d3 : decide (i < n) = true := decide_eq_true (by omega)
 have d4 : (0 : Int) ≤ (i : Int) := by omega
 have d5 : (i : Int) < (n : Int) := by omega
 have d6 : ((i : Int)).toNat = i := rfl
 have d7 : ¬ ((i : Int) < 0) := by omega
 have d8 : decide ((i : Int) < 0) = false := decide_eq_false (by omega)
 have d9 : ¬ ((n : Int) ≤ (i : Int)) := by omega
 have HLEN := Lib.hid hlen
 clear hs hr hk hlen
 obtain ⟨i1, hi1⟩ : ∃ i1, i + 1 = i1 := ⟨_, rfl⟩
 have ei : (i : Int) + 1 = (i1 : Int) := by omega
 rw [hi1] at FQ
 clear hi1
 go_enter Tryz.func81, Tryz.ntmps81
 obtain ⟨p0, p1, p2, p3, pf0, pf1, pf2, pf3, plt⟩ := SX.facts E
 obtain ⟨q9, u9, hA9, _, _, hb9, _, a0, a1, a2, a3⟩ := E.out.rd.at_ ht
 obtain ⟨y1, y2⟩ := some_addr hA9
 rw [y1, y2] at a0 a1 a2 a3
 clear hA9 hb9 y1 y2
 go_wp2_with fail
 go_quiet (fail)
 replace E := Lib.hid (SX.step E.out (below_drewN (Below.refl _ _) nq))
 go_wp2_with fail
 go_quiet (fail)
 replace E := Lib.hid (SX.step E.out (below_drewN (Below.refl _ _) nq))
 go_wp2_with fail
 have hTs : T.size ≤ 1000 := Nat.le_trans hT (by omega)
 have S0 := (SX.facts E).c0
 have S1 := (SX.facts E).c1
 have S2 := (tok_cells E.out.rd ht).2.1
 have hlt9 := (SX.az (g1 := w.heap.size) E (by simp)).lt
 generalize hV4 : World.drewN _ _ = V4 at E S0 S1 S2 hlt9 ⊢
 clear hV4
 go_region_held3 (fun v => v.cell? ⟨g, 0, none⟩ = some (.slice (some ⟨q, u0, none⟩) n c) ∧ v.cell? ⟨g, 1, none⟩ = some (.int .i64 (i : Int)) ∧ v.cell? ⟨q, u0 + i * 4 + 1, none⟩ = some (.string T)) (first | with_reducible exact ⟨(SX.facts E).c0, (SX.facts E).c1, (tok_cells E.out.rd ht).2.1⟩ | with_reducible exact ⟨(SX.facts (Lib.hid (SX.lay (t := 26) E.out rfl))).c0, (SX.facts (Lib.hid (SX.lay (t := 26) E.out rfl))).c1, (tok_cells (Lib.hid (SX.lay (t := 26) E.out rfl)).out.rd ht).2.1⟩ | with_reducible exact ⟨(SX.facts E3).c0, (SX.facts E3).c1, (tok_cells E3.out.rd ht).2.1⟩ | go_keep) (first | (go_at_call 121; refine (parse13 T _ hTs).mono ?_; rintro e w5 ⟨x5, k5, A5, n5, c5, z5, rfl, hn5, hb5, hv5⟩; (first | (replace E := Lib.hid (SX.push (SX.step E.out ((Below.refl _ _).drew.trans hb5)) hn5)) | (replace E := Lib.hid (SX.push (SX.step (SX.lay (g1 := V4.heap.size) (SX.step E.out (Below.refl _ _).drew) rfl) hb5) hn5); obtain ⟨b0, b1, b2, bf0, bf1, bf2, blt⟩ := SX.az (g1 := V4.heap.size) E (by simp); have E3 := Lib.hid (SX.store E.out (g1 := V4.heap.size) (x0 := .bool false) (x1 := .slice none 0 0) (x2 := .int .i64 0) (by simp) (noLimb_bool _) (noLimb_slice _ _ _) (noLimb_int _) [(w.heap.size, .bool false, .slice none 0 0, .int .i64 0)] (fun q hq => by simp at hq; subst hq; exact ⟨by simp, by show V4.heap.size ≠ w.heap.size; omega⟩) (.bool (ngB x5)) (.slice A5 n5 c5) (.int .i64 (k5 : Int))))); have V5 := Lib.hid hv5; clear hn5 hb5 hv5))
 all_goals first
  | (replace E := E3; clear E3; unfold put3 at E; generalize hW5 : World.setCell _ _ _ = W5 at E ⊢; generalize V4.heap.size = g3 at E ⊢; clear hW5)
  | (replace E := Lib.hid (SX.lay (g1 := w5.heap.size) (x0 := .bool (ngB x5)) (x1 := .slice A5 n5 c5) (x2 := .int .i64 (k5 : Int)) (t := 26) E.out rfl); generalize hW5 : World.alloc w5 _ = W5 at E ⊢; generalize w5.heap.size = g3 at E ⊢; clear hW5)
 all_goals
  have BR := Lib.hid (SX.az (g1 := w.heap.size) E (by simp))
  have BG := Lib.hid (SX.ad x5 A5 n5 c5 k5 (g1 := g3) E (by simp))
  have n1 : g ≠ g3 := by have := (E.out.box _ (List.mem_cons_self)).2; have := E.out.pl; dsimp only at *; omega
  have n2 : g3 ≠ g := fun e => n1 e.symm
  have n3 : g ≠ w.heap.size := by omega
  have n4 : w.heap.size ≠ g := by omega
  clear p0 p1 p2 p3 pf0 pf1 pf2 pf3 plt
  clear a0 a1 a2 a3 S0 S1 S2
  obtain ⟨p0, p1, p2, p3, pf0, pf1, pf2, pf3, plt⟩ := SX.facts E
  rcases Nat.eq_zero_or_pos z5 with hz5 | hz5
  ·have dz : ((z5 : Int) != 0) = false := by rw [hz5]; rfl
   have F2 : Hid (FAC (L.map tok) d i = .inr (x5, k5, i1)) := by
    show _ = _
    rw [FQ.out]
    show (match numV T with | none => Sum.inl (3, i) | some (a, b) => Sum.inr (a, b, i1)) = _
    rw [V5.out, if_pos hz5]
   clear hz5
   obtain ⟨r0, r1, r2, rf0, rf1, rf2, rlt⟩ := BR.out
   obtain ⟨y0, y1, y2, yf0, yf1, yf2, ylt⟩ := BG.out
   go_wp2_with fail
   clear r0 r1 r2 rf0 rf1 rf2 rlt y0 y1 y2 yf0 yf1 yf2 ylt
   replace E := Lib.hid (SX.set1 E.out i1)
   have EF := Lib.hid (SX.sz E.out (g1 := w.heap.size) (by simp) (.bool (ngB x5)) (.slice A5 n5 c5) (.int .i64 (k5 : Int)))
   obtain ⟨r0, r1, r2, _, _, _, _⟩ := SX.ad x5 A5 n5 c5 k5 (g1 := w.heap.size) EF (by simp)
   exact bodyPost_ret (v := .agg #[.bool (ngB x5), .slice A5 n5 c5, .int .i64 (k5 : Int)]) (by simp [results, Tryz.results81, go_sem, r0, r1, r2]) rfl ⟨x5, k5, A5, n5, c5, _, _, _, rfl, SX.got EF (by simp), EF.out.st, EF.out.kp, by rw [F2.out]; exact ⟨rfl, rfl, rfl, rfl, rfl⟩⟩
  ·have dz : ((z5 : Int) != 0) = true := by rw [bne_iff_ne]; omega
   have F2 : Hid (FAC (L.map tok) d i = .inl (3, i)) := by
    show _ = _
    rw [FQ.out]
    show (match numV T with | none => Sum.inl (3, i) | some (a, b) => Sum.inr (a, b, i1)) = _
    rw [V5.out, if_neg (by omega)]
   clear hz5 FQ
   have FQ := F2
   clear F2
   go_wp2_with fail
   clear p0 p1 p2 p3 pf0 pf1 pf2 pf3 plt
   refine (fail13 E.out.st (z := 3) (by omega) 3 (by rfl)).mono ?_; rintro e w9 ⟨rfl, hst, hkp⟩
   replace E := Lib.hid (SX.call E.out hkp hst); clear hst hkp
   obtain ⟨r0, r1, r2, rf0, rf1, rf2, rlt⟩ := SX.az (g1 := w.heap.size) E (by simp)
   go_wp2_with fail
   clear r0 r1 r2 rf0 rf1 rf2 rlt
   have EF := Lib.hid (SX.sz E.out (g1 := w.heap.size) (by simp) (.bool false) (.slice none 0 0) (.int .i64 0))
   obtain ⟨r0, r1, r2, _, _, _, _⟩ := SX.az (g1 := w.heap.size) EF (by simp)
   exact bodyPost_ret (v := .agg #[.bool false, .slice none 0 0, .int .i64 0]) (by simp [results, Tryz.results81, go_sem, r0, r1, r2]) rfl ⟨0, 0, none, 0, 0, _, _, _, rfl, num_zero _ _, EF.out.st, EF.out.kp, by rw [FQ.out]; exact out_none (by omega) hd⟩
theorem fac_not {w : World} {g B n c i d : Nat} {A : Option Addr} {L : List Tk4} (hs : StB w g A n c i d 0) (hr : RdK w B A n c L) (hp : B ≤ g) (hn : n ≤ 200) (hd : d ≤ 64) {t : Tk4} (ht : L[i]? = some t) (hk : t.1 ≠ 4) (hst : sta (tok t) = false) : Calls Tryz.prog 81 #[.pointer (some ⟨g, 0, none⟩)] w (RetF w g A n c d (4210 - d) (FAC (L.map tok) d i)) := by
 have hlen := hr.len
 have hgw := hs.lt
 have E := Lib.hid (fac_start hs hr hp)
 have FQ := Lib.hid (FAC_not (L := L.map tok) (d := d) (a := i) (t := tok t) (by rw [List.getElem?_map, ht]; rfl) hk hst)
 obtain ⟨q, u0, rfl, h1, h2, h3, h4, -⟩ := hr.at_ ht
 obtain ⟨k, T, l, m⟩ := t
 have dk : (k == 4) = false := by rw [beq_eq_false_iff_ne]; exact hk
 have d1 : decide ((n : Int) ≤ (i : Int)) = false := decide_eq_false (by omega)
 have d2 : decide (n ≤ i) = false := decide_eq_false (by omega)
 have d3 : decide (i < n) = true := decide_eq_true (by omega)
 have d4 : (0 : Int) ≤ (i : Int) := by omega
 have d5 : (i : Int) < (n : Int) := by omega
 have d6 : ((i : Int)).toNat = i := rfl
 have d7 : ¬ ((i : Int) < 0) := by omega
 have d8 : decide ((i : Int) < 0) = false := decide_eq_false (by omega)
 have d9 : ¬ ((n : Int) ≤ (i : Int)) := by omega
 have HLEN := Lib.hid hlen
 have HST : Hid (sta (k, T) = false) := hst
 clear hs hr hk hlen hst
 go_enter Tryz.func81, Tryz.ntmps81
 obtain ⟨p0, p1, p2, p3, pf0, pf1, pf2, pf3, plt⟩ := SX.facts E
 obtain ⟨q9, u9, hA9, _, _, hb9, _, a0, a1, a2, a3⟩ := E.out.rd.at_ ht
 obtain ⟨y1, y2⟩ := some_addr hA9
 rw [y1, y2] at a0 a1 a2 a3
 clear hA9 hb9 y1 y2
 go_wp2_with fail
 go_quiet (fail)
 replace E := Lib.hid (SX.step E.out (below_drewN (Below.refl _ _) nq))
 go_wp2_with fail
 go_quiet (fail)
 replace E := Lib.hid (SX.step E.out (below_drewN (Below.refl _ _) nq))
 go_wp2_with fail
 clear p0 p1 p2 p3 pf0 pf1 pf2 pf3 plt
 have C := tok_cells E.out.rd ht
 have S0 := (SX.facts E).c0
 have S1 := (SX.facts E).c1
 obtain ⟨S2, S3, S4, S5⟩ := C
 clear a0 a1 a2 a3
 generalize hV4 : World.drewN _ _ = V4 at E S0 S1 S2 S3 S4 S5 ⊢
 clear hV4
 go_region_held3 (fun v => v.cell? ⟨g, 0, none⟩ = some (.slice (some ⟨q, u0, none⟩) n c) ∧ v.cell? ⟨g, 1, none⟩ = some (.int .i64 (i : Int)) ∧ v.cell? ⟨q, u0 + i * 4, none⟩ = some (.int .i64 k) ∧ v.cell? ⟨q, u0 + i * 4 + 1, none⟩ = some (.string T) ∧ v.cell? ⟨q, u0 + i * 4 + 2, none⟩ = some (.int .i64 l) ∧ v.cell? ⟨q, u0 + i * 4 + 3, none⟩ = some (.int .i64 m)) (first | with_reducible exact ⟨(SX.facts E).c0, (SX.facts E).c1, (tok_cells E.out.rd ht).1, (tok_cells E.out.rd ht).2.1, (tok_cells E.out.rd ht).2.2.1, (tok_cells E.out.rd ht).2.2.2⟩ | go_keep) (first | (go_at_call 14; refine (starts13 HST.out l m _).mono ?_; rintro e w5 ⟨rfl, hb5⟩; replace E := Lib.hid (SX.step E.out ((Below.refl _ _).drew.trans hb5)); clear hb5))
 clear S0 S1 S2 S3 S4 S5
 go_wp2_with fail
 refine (fail13 E.out.st (z := 3) (by omega) 3 (by rfl)).mono ?_; rintro e w9 ⟨rfl, hst, hkp⟩
 replace E := Lib.hid (SX.call E.out hkp hst); clear hst hkp
 obtain ⟨r0, r1, r2, rf0, rf1, rf2, rlt⟩ := SX.az (g1 := w.heap.size) E (by simp)
 go_wp2_with fail
 clear r0 r1 r2 rf0 rf1 rf2 rlt
 have EF := Lib.hid (SX.sz E.out (g1 := w.heap.size) (by simp) (.bool false) (.slice none 0 0) (.int .i64 0))
 obtain ⟨r0, r1, r2, _, _, _, _⟩ := SX.az (g1 := w.heap.size) EF (by simp)
 exact bodyPost_ret (v := .agg #[.bool false, .slice none 0 0, .int .i64 0]) (by simp [results, Tryz.results81, go_sem, r0, r1, r2]) rfl ⟨0, 0, none, 0, 0, _, _, _, rfl, num_zero _ _, EF.out.st, EF.out.kp, by rw [FQ.out]; exact out_none (by omega) hd⟩
theorem fac_deep {w : World} {g B n c i d : Nat} {A : Option Addr} {L : List Tk4} (hs : StB w g A n c i d 0) (hr : RdK w B A n c L) (hp : B ≤ g) (hn : n ≤ 200) (hd : d ≤ 64) {t : Tk4} (ht : L[i]? = some t) (hk : t.1 ≠ 4) (hst : sta (tok t) = true) (h64 : d = 64) : Calls Tryz.prog 81 #[.pointer (some ⟨g, 0, none⟩)] w (RetF w g A n c d (4210 - d) (FAC (L.map tok) d i)) := by
 have hlen := hr.len
 have hgw := hs.lt
 have E := Lib.hid (fac_start hs hr hp)
 have FQ := Lib.hid (FAC_deep (L := L.map tok) (d := d) (a := i) (t := tok t) (by rw [List.getElem?_map, ht]; rfl) hk hst (by omega))
 obtain ⟨q, u0, rfl, h1, h2, h3, h4, -⟩ := hr.at_ ht
 obtain ⟨k, T, l, m⟩ := t
 have dk : (k == 4) = false := by rw [beq_eq_false_iff_ne]; exact hk
 have d1 : decide ((n : Int) ≤ (i : Int)) = false := decide_eq_false (by omega)
 have d2 : decide (n ≤ i) = false := decide_eq_false (by omega)
 have d3 : decide (i < n) = true := decide_eq_true (by omega)
 have d4 : (0 : Int) ≤ (i : Int) := by omega
 have d5 : (i : Int) < (n : Int) := by omega
 have d6 : ((i : Int)).toNat = i := rfl
 have d7 : ¬ ((i : Int) < 0) := by omega
 have d8 : decide ((i : Int) < 0) = false := decide_eq_false (by omega)
 have d9 : ¬ ((n : Int) ≤ (i : Int)) := by omega
 have HLEN := Lib.hid hlen
 have HST : Hid (sta (k, T) = true) := hst
 clear hs hr hk hlen hst
 have d64 : decide ((64 : Int) ≤ (d : Int)) = true := decide_eq_true (by omega)
 go_enter Tryz.func81, Tryz.ntmps81
 obtain ⟨p0, p1, p2, p3, pf0, pf1, pf2, pf3, plt⟩ := SX.facts E
 obtain ⟨q9, u9, hA9, _, _, hb9, _, a0, a1, a2, a3⟩ := E.out.rd.at_ ht
 obtain ⟨y1, y2⟩ := some_addr hA9
 rw [y1, y2] at a0 a1 a2 a3
 clear hA9 hb9 y1 y2
 go_wp2_with fail
 go_quiet (fail)
 replace E := Lib.hid (SX.step E.out (below_drewN (Below.refl _ _) nq))
 go_wp2_with fail
 go_quiet (fail)
 replace E := Lib.hid (SX.step E.out (below_drewN (Below.refl _ _) nq))
 go_wp2_with fail
 clear p0 p1 p2 p3 pf0 pf1 pf2 pf3 plt
 have C := tok_cells E.out.rd ht
 have S0 := (SX.facts E).c0
 have S1 := (SX.facts E).c1
 obtain ⟨S2, S3, S4, S5⟩ := C
 clear a0 a1 a2 a3
 generalize hV4 : World.drewN _ _ = V4 at E S0 S1 S2 S3 S4 S5 ⊢
 clear hV4
 go_region_held3 (fun v => v.cell? ⟨g, 0, none⟩ = some (.slice (some ⟨q, u0, none⟩) n c) ∧ v.cell? ⟨g, 1, none⟩ = some (.int .i64 (i : Int)) ∧ v.cell? ⟨q, u0 + i * 4, none⟩ = some (.int .i64 k) ∧ v.cell? ⟨q, u0 + i * 4 + 1, none⟩ = some (.string T) ∧ v.cell? ⟨q, u0 + i * 4 + 2, none⟩ = some (.int .i64 l) ∧ v.cell? ⟨q, u0 + i * 4 + 3, none⟩ = some (.int .i64 m)) (first | with_reducible exact ⟨(SX.facts E).c0, (SX.facts E).c1, (tok_cells E.out.rd ht).1, (tok_cells E.out.rd ht).2.1, (tok_cells E.out.rd ht).2.2.1, (tok_cells E.out.rd ht).2.2.2⟩ | go_keep) (first | (go_at_call 14; refine (starts13 HST.out l m _).mono ?_; rintro e w5 ⟨rfl, hb5⟩; replace E := Lib.hid (SX.step E.out ((Below.refl _ _).drew.trans hb5)); clear hb5))
 clear S0 S1 S2 S3 S4 S5
 obtain ⟨p0, p1, p2, p3, pf0, pf1, pf2, pf3, plt⟩ := SX.facts E
 go_wp2_with fail
 clear p0 p1 p2 p3 pf0 pf1 pf2 pf3 plt
 refine (fail13 E.out.st (z := 6) (by omega) 6 (by rfl)).mono ?_; rintro e w9 ⟨rfl, hst, hkp⟩
 replace E := Lib.hid (SX.call E.out hkp hst); clear hst hkp
 obtain ⟨r0, r1, r2, rf0, rf1, rf2, rlt⟩ := SX.az (g1 := w.heap.size) E (by simp)
 go_wp2_with fail
 clear r0 r1 r2 rf0 rf1 rf2 rlt
 have EF := Lib.hid (SX.sz E.out (g1 := w.heap.size) (by simp) (.bool false) (.slice none 0 0) (.int .i64 0))
 obtain ⟨r0, r1, r2, _, _, _, _⟩ := SX.az (g1 := w.heap.size) EF (by simp)
 exact bodyPost_ret (v := .agg #[.bool false, .slice none 0 0, .int .i64 0]) (by simp [results, Tryz.results81, go_sem, r0, r1, r2]) rfl ⟨0, 0, none, 0, 0, _, _, _, rfl, num_zero _ _, EF.out.st, EF.out.kp, by rw [FQ.out]; exact out_none (by omega) hd⟩
def SumC (L : List Tk4) (i : Nat) : Prop := ∀ {w : World} {g B n c d : Nat} {A : Option Addr}, StB w g A n c i d 0 → RdK w B A n c L → B ≤ g → n ≤ 200 → d ≤ 64 → Calls Tryz.prog 26 #[.pointer (some ⟨g, 0, none⟩)] w (RetF w g A n c d (4211 - d) (SUM (L.map tok) d i))
def ProC (L : List Tk4) (i : Nat) : Prop := ∀ {w : World} {g B n c d : Nat} {A : Option Addr}, StB w g A n c i d 0 → RdK w B A n c L → B ≤ g → n ≤ 200 → d ≤ 64 → Calls Tryz.prog 48 #[.pointer (some ⟨g, 0, none⟩)] w (RetF w g A n c d (4210 - d) (PRO (L.map tok) d i))
def FacC (L : List Tk4) (i : Nat) : Prop := ∀ {w : World} {g B n c d : Nat} {A : Option Addr}, StB w g A n c i d 0 → RdK w B A n c L → B ≤ g → n ≤ 200 → d ≤ 64 → Calls Tryz.prog 81 #[.pointer (some ⟨g, 0, none⟩)] w (RetF w g A n c d (4210 - d) (FAC (L.map tok) d i))
theorem litB {T : ByteArray} {c : UInt8} {b : Bool} (h : decide (bs9 T = [c.toNat]) = b) : (T.toList == [c]) = b := by
 cases b with
 | true => exact lit_yes (l := [c]) (of_decide_eq_true h)
 | false => exact lit_not (l := [c]) (of_decide_eq_false h)
theorem isg_txt {k : Int} {T : ByteArray} {c : Nat} {b : Bool} (h : isg (k, T) c = b) (hk : k = 10) : decide (bs9 T = [c]) = b := by
 rw [← h, isg_is, decide_eq_true hk, Bool.true_and]
theorem sta_ten {k : Int} {T : ByteArray} (h : sta (k, T) = true) (hk : k ≠ 4) : k = 10 := by
 unfold sta at h
 rw [decide_eq_false hk, Bool.false_or] at h
 rcases Int.decEq k 10 with h1 | h1
 ·simp [isg_is, decide_eq_false h1] at h
 ·exact h1
theorem fac_open {w : World} {g B n c i d : Nat} {A : Option Addr} {L : List Tk4} (hs : StB w g A n c i d 0) (hr : RdK w B A n c L) (hp : B ≤ g) (hn : n ≤ 200) (hd : d ≤ 64) (hL : ∀ t ∈ L.map tok, t.2.size ≤ 30) {t : Tk4} (ht : L[i]? = some t) (hk : t.1 ≠ 4) (hst : sta (tok t) = true) (h64 : d < 64) (ho : isg (tok t) 40 = true) (HC : SumC L (i + 1)) : Calls Tryz.prog 81 #[.pointer (some ⟨g, 0, none⟩)] w (RetF w g A n c d (4210 - d) (FAC (L.map tok) d i)) := by
 have hlen := hr.len
 have hgw := hs.lt
 have E := Lib.hid (fac_start hs hr hp)
 have FQ := Lib.hid (FAC_open (L := L.map tok) (d := d) (a := i) (t := tok t) (by rw [List.getElem?_map, ht]; rfl) hk hst h64 ho)
 obtain ⟨q, u0, rfl, h1, h2, h3, h4, -⟩ := hr.at_ ht
 obtain ⟨k, T, l, m⟩ := t
 have hk10 : k = 10 := sta_ten hst hk
 have dk : (k == 4) = false := by rw [beq_eq_false_iff_ne]; exact hk
 have d1 : decide ((n : Int) ≤ (i : Int)) = false := decide_eq_false (by omega)
 have d2 : decide (n ≤ i) = false := decide_eq_false (by omega)
 have d3 : decide (i < n) = true := decide_eq_true (by omega)
 have d4 : (0 : Int) ≤ (i : Int) := by omega
 have d5 : (i : Int) < (n : Int) := by omega
 have d6 : ((i : Int)).toNat = i := rfl
 have d7 : ¬ ((i : Int) < 0) := by omega
 have d8 : decide ((i : Int) < 0) = false := decide_eq_false (by omega)
 have d9 : ¬ ((n : Int) ≤ (i : Int)) := by omega
 have HLEN := Lib.hid hlen
 have HST : Hid (sta (k, T) = true) := hst
 have l40 : (T.toList == [40]) = true := litB (c := 40) (isg_txt ho hk10)
 have d64 : decide ((64 : Int) ≤ (d : Int)) = false := decide_eq_false (by omega)
 obtain ⟨i1, hi1⟩ : ∃ i1, i + 1 = i1 := ⟨_, rfl⟩
 have ei : (i : Int) + 1 = (i1 : Int) := by omega
 obtain ⟨dd, hdd⟩ : ∃ dd, d + 1 = dd := ⟨_, rfl⟩
 have ed : (d : Int) + 1 = (dd : Int) := by omega
 have HI := Lib.hid hi1
 have HDD := Lib.hid hdd
 rw [hi1, hdd] at FQ
 rw [hi1] at HC
 clear hs hr hk hlen hst ho hk10 hi1 hdd
 go_enter Tryz.func81, Tryz.ntmps81
 obtain ⟨p0, p1, p2, p3, pf0, pf1, pf2, pf3, plt⟩ := SX.facts E
 obtain ⟨q9, u9, hA9, _, _, hb9, _, a0, a1, a2, a3⟩ := E.out.rd.at_ ht
 obtain ⟨y1, y2⟩ := some_addr hA9
 rw [y1, y2] at a0 a1 a2 a3
 clear hA9 hb9 y1 y2
 go_wp2_with fail
 go_quiet (fail)
 replace E := Lib.hid (SX.step E.out (below_drewN (Below.refl _ _) nq))
 go_wp2_with fail
 go_quiet (fail)
 replace E := Lib.hid (SX.step E.out (below_drewN (Below.refl _ _) nq))
 go_wp2_with fail
 clear p0 p1 p2 p3 pf0 pf1 pf2 pf3 plt
 have C := tok_cells E.out.rd ht
 have S0 := (SX.facts E).c0
 have S1 := (SX.facts E).c1
 obtain ⟨S2, S3, S4, S5⟩ := C
 clear a0 a1 a2 a3
 generalize hV4 : World.drewN _ _ = V4 at E S0 S1 S2 S3 S4 S5 ⊢
 clear hV4
 go_region_held3 (fun v => v.cell? ⟨g, 0, none⟩ = some (.slice (some ⟨q, u0, none⟩) n c) ∧ v.cell? ⟨g, 1, none⟩ = some (.int .i64 (i : Int)) ∧ v.cell? ⟨q, u0 + i * 4, none⟩ = some (.int .i64 k) ∧ v.cell? ⟨q, u0 + i * 4 + 1, none⟩ = some (.string T) ∧ v.cell? ⟨q, u0 + i * 4 + 2, none⟩ = some (.int .i64 l) ∧ v.cell? ⟨q, u0 + i * 4 + 3, none⟩ = some (.int .i64 m)) (first | with_reducible exact ⟨(SX.facts E).c0, (SX.facts E).c1, (tok_cells E.out.rd ht).1, (tok_cells E.out.rd ht).2.1, (tok_cells E.out.rd ht).2.2.1, (tok_cells E.out.rd ht).2.2.2⟩ | go_keep) (first | (go_at_call 14; refine (starts13 HST.out l m _).mono ?_; rintro e w5 ⟨rfl, hb5⟩; replace E := Lib.hid (SX.step E.out ((Below.refl _ _).drew.trans hb5)); clear hb5))
 clear S0 S1 S2 S3 S4 S5
 obtain ⟨p0, p1, p2, p3, pf0, pf1, pf2, pf3, plt⟩ := SX.facts E
 obtain ⟨q9, u9, hA9, _, _, hb9, _, a0, a1, a2, a3⟩ := E.out.rd.at_ ht
 obtain ⟨y1, y2⟩ := some_addr hA9
 rw [y1, y2] at a0 a1 a2 a3
 clear hA9 hb9 y1 y2
 go_wp2_with fail
 go_quiet (fail)
 replace E := Lib.hid (SX.step E.out (below_drewN (Below.refl _ _) nq))
 clear p0 p1 p2 p3 pf0 pf1 pf2 pf3 plt
 clear a0 a1 a2 a3
 have hlt9 := (SX.az (g1 := w.heap.size) E (by simp)).lt
 have n3 : g ≠ w.heap.size := by omega
 have n4 : w.heap.size ≠ g := by omega
 generalize hV7 : World.drewN _ _ = V7 at E hlt9 ⊢
 clear hV7
 have n5 : g ≠ V7.heap.size := by omega
 have n6 : V7.heap.size ≠ g := by omega
 obtain ⟨p0, p1, p2, p3, pf0, pf1, pf2, pf3, plt⟩ := SX.facts E
 go_wp2_with fail
 clear p0 p1 p2 p3 pf0 pf1 pf2 pf3 plt
 replace E := Lib.hid (SX.lay (g1 := V7.heap.size) (x0 := .bool false) (x1 := .slice none 0 0) (x2 := .int .i64 0) (t := 26) (SX.set2 (SX.set1 E.out i1) dd) (by simp))
 refine (HC E.out.st E.out.rd hp hn (by omega)).mono ?_; rintro e w9 ⟨x9, k9, A9, n9, c9, b9, f9, e9, rfl, hnum, hst9, hkp9, hout⟩
 replace E := Lib.hid (SX.push (SX.call E.out hkp9 hst9) hnum)
 clear hnum hst9 hkp9
 have n7 : V7.heap.size ≠ w.heap.size := by omega
 have n8 : w.heap.size ≠ V7.heap.size := fun e => n7 e.symm
 cases hS : SUM (L.map tok) dd i1 with
 | inl r =>
  obtain ⟨z, b⟩ := r
  rw [hS] at hout
  obtain ⟨hz, rfl, rfl, hsz, hk9, hd1, hd2⟩ := hout
  have F2 : Hid (FAC (L.map tok) d i = .inl (e9, b9)) := by
   show _ = _
   rw [FQ.out, hS]; rfl
  have dz : ((e9 : Int) != 0) = true := by rw [bne_iff_ne]; omega
  have hF : 4210 - d = 4211 - dd := by have := HDD.out; omega
  have hdf : d ≤ f9 := by have := HDD.out; omega
  clear FQ hS
  obtain ⟨p0, p1, p2, p3, pf0, pf1, pf2, pf3, plt⟩ := SX.facts E
  obtain ⟨r0, r1, r2, rf0, rf1, rf2, rlt⟩ := SX.az (g1 := w.heap.size) E (by simp)
  obtain ⟨y0, y1, y2, yf0, yf1, yf2, ylt⟩ := SX.az (g1 := V7.heap.size) E (by simp)
  go_wp2_with fail
  clear p0 p1 p2 p3 pf0 pf1 pf2 pf3 plt
  clear r0 r1 r2 rf0 rf1 rf2 rlt; clear y0 y1 y2 yf0 yf1 yf2 ylt
  replace E := Lib.hid (SX.store E.out (g1 := V7.heap.size) (x0 := .bool false) (x1 := .slice none 0 0) (x2 := .int .i64 0) (by simp) (noLimb_bool _) (noLimb_slice _ _ _) (noLimb_int _) [(w.heap.size, .bool false, .slice none 0 0, .int .i64 0)] (fun q hq => by simp at hq; subst hq; exact ⟨by simp, by first | exact n7 | exact n8⟩) (.bool (ngB x9)) (.slice A9 n9 c9) (.int .i64 (k9 : Int)))
  have EF := Lib.hid (SX.sz E.out (g1 := w.heap.size) (by simp) (.bool (ngB x9)) (.slice A9 n9 c9) (.int .i64 (k9 : Int)))
  obtain ⟨r0, r1, r2, _, _, _, _⟩ := SX.ad x9 A9 n9 c9 k9 (g1 := w.heap.size) EF (by simp)
  exact bodyPost_ret (v := .agg #[.bool (ngB x9), .slice A9 n9 c9, .int .i64 (k9 : Int)]) (by simp [results, Tryz.results81, go_sem, r0, r1, r2]) rfl ⟨x9, k9, A9, n9, c9, _, _, _, rfl, SX.got EF (by simp), EF.out.st, EF.out.kp, by rw [F2.out, hF]; exact ⟨hz, rfl, rfl, hsz, hk9, hdf, hd2⟩⟩
 | inr r =>
  obtain ⟨j, t, b⟩ := r
  rw [hS] at hout
  obtain ⟨rfl, rfl, rfl, hfd, rfl⟩ := hout
  obtain rfl := hfd.symm
  have hb9 : b9 ≤ n := by have := (SUM_grt hL hS).2.1; rw [List.length_map] at this; have := HLEN.out; omega
  have F2 : Hid (FAC (L.map tok) d i = if isAt (L.map tok) b9 41 = true then .inr (x9, k9, b9 + 1) else .inl (if b9 < L.length then 3 else 2, b9)) := by
   show _ = _
   rw [FQ.out, hS, ← List.length_map (f := tok)]; rfl
  clear FQ hS
  obtain ⟨p0, p1, p2, p3, pf0, pf1, pf2, pf3, plt⟩ := SX.facts E
  obtain ⟨r0, r1, r2, rf0, rf1, rf2, rlt⟩ := SX.az (g1 := w.heap.size) E (by simp)
  obtain ⟨y0, y1, y2, yf0, yf1, yf2, ylt⟩ := SX.az (g1 := V7.heap.size) E (by simp)
  go_wp2_with fail
  clear p0 p1 p2 p3 pf0 pf1 pf2 pf3 plt
  clear r0 r1 r2 rf0 rf1 rf2 rlt; clear y0 y1 y2 yf0 yf1 yf2 ylt
  replace E := Lib.hid (SX.store E.out (g1 := V7.heap.size) (x0 := .bool false) (x1 := .slice none 0 0) (x2 := .int .i64 0) (by simp) (noLimb_bool _) (noLimb_slice _ _ _) (noLimb_int _) [(w.heap.size, .bool false, .slice none 0 0, .int .i64 0)] (fun q hq => by simp at hq; subst hq; exact ⟨by simp, by first | exact n7 | exact n8⟩) (.bool (ngB x9)) (.slice A9 n9 c9) (.int .i64 (k9 : Int)))
  cases hI : isAt (L.map tok) b9 41 with
  | true =>
   refine (is13 E.out.st E.out.rd (by have := E.out.pl; have := E.out.st.lt; omega) (by omega) (by omega) (s := ⟨#[41]⟩) rfl hI).mono ?_; rintro e w10 ⟨rfl, hb10⟩
   replace E := Lib.hid (SX.step E.out hb10)
   obtain ⟨b1, hb1⟩ : ∃ b1, b9 + 1 = b1 := ⟨_, rfl⟩
   have eb : (b9 : Int) + 1 = (b1 : Int) := by omega
   have ed2 : (dd : Int) - 1 = (d : Int) := by have := HDD.out; omega
   have F3 : Hid (FAC (L.map tok) d i = .inr (x9, k9, b1)) := by
    show _ = _
    rw [F2.out, if_pos hI, hb1]
   clear F2 hI hb1 hb10
   obtain ⟨p0, p1, p2, p3, pf0, pf1, pf2, pf3, plt⟩ := SX.facts E
   obtain ⟨r0, r1, r2, rf0, rf1, rf2, rlt⟩ := SX.az (g1 := w.heap.size) E (by simp)
   obtain ⟨y0, y1, y2, yf0, yf1, yf2, ylt⟩ := SX.ad x9 A9 n9 c9 k9 (g1 := V7.heap.size) E (by simp)
   go_wp2_with fail
   clear p0 p1 p2 p3 pf0 pf1 pf2 pf3 plt
   clear r0 r1 r2 rf0 rf1 rf2 rlt; clear y0 y1 y2 yf0 yf1 yf2 ylt
   replace E := Lib.hid (SX.set2 (SX.set1 E.out b1) d)
   have EF := Lib.hid (SX.sz E.out (g1 := w.heap.size) (by simp) (.bool (ngB x9)) (.slice A9 n9 c9) (.int .i64 (k9 : Int)))
   obtain ⟨r0, r1, r2, _, _, _, _⟩ := SX.ad x9 A9 n9 c9 k9 (g1 := w.heap.size) EF (by simp)
   exact bodyPost_ret (v := .agg #[.bool (ngB x9), .slice A9 n9 c9, .int .i64 (k9 : Int)]) (by simp [results, Tryz.results81, go_sem, r0, r1, r2]) rfl ⟨x9, k9, A9, n9, c9, _, _, _, rfl, SX.got EF (by simp), EF.out.st, EF.out.kp, by rw [F3.out]; exact ⟨rfl, rfl, rfl, rfl, rfl⟩⟩
  | false =>
   refine (is13 E.out.st E.out.rd (by have := E.out.pl; have := E.out.st.lt; omega) (by omega) (by omega) (s := ⟨#[41]⟩) rfl hI).mono ?_; rintro e w10 ⟨rfl, hb10⟩
   replace E := Lib.hid (SX.step E.out hb10)
   obtain ⟨z, hz⟩ : ∃ z, (if b9 < n then 3 else 2) = z := ⟨_, rfl⟩
   have hz0 : 0 < z := by subst hz; split <;> omega
   have F3 : Hid (FAC (L.map tok) d i = .inl (z, b9)) := by
    show _ = _
    rw [F2.out, if_neg (by rw [hI]; exact Bool.noConfusion), ← hz, HLEN.out]
   have hd9 : d ≤ dd := by have := HDD.out; omega
   have hdd9 : dd ≤ 64 := by have := HDD.out; omega
   clear F2 hI hb10
   obtain ⟨p0, p1, p2, p3, pf0, pf1, pf2, pf3, plt⟩ := SX.facts E
   go_wp2_with fail
   clear p0 p1 p2 p3 pf0 pf1 pf2 pf3 plt
   refine (after13 E.out.st (by omega) (by omega) hz).mono ?_; rintro e w11 ⟨rfl, hb11⟩
   replace E := Lib.hid (SX.step E.out hb11)
   clear hb11
   go_wp2_with fail
   refine (fail13 E.out.st (z := z) hz0 z (by rfl)).mono ?_; rintro e w12 ⟨rfl, hst12, hkp12⟩
   replace E := Lib.hid (SX.call E.out hkp12 hst12)
   clear hst12 hkp12
   obtain ⟨r0, r1, r2, rf0, rf1, rf2, rlt⟩ := SX.az (g1 := w.heap.size) E (by simp)
   go_wp2_with fail
   clear r0 r1 r2 rf0 rf1 rf2 rlt
   have EF := Lib.hid (SX.sz E.out (g1 := w.heap.size) (by simp) (.bool false) (.slice none 0 0) (.int .i64 0))
   obtain ⟨r0, r1, r2, _, _, _, _⟩ := SX.az (g1 := w.heap.size) EF (by simp)
   exact bodyPost_ret (v := .agg #[.bool false, .slice none 0 0, .int .i64 0]) (by simp [results, Tryz.results81, go_sem, r0, r1, r2]) rfl ⟨0, 0, none, 0, 0, _, _, _, rfl, num_zero _ _, EF.out.st, EF.out.kp, by rw [F3.out]; exact ⟨hz0, rfl, rfl, by unfold Sz; exact Nat.pow_pos (by omega), Nat.zero_le _, hd9, hdd9⟩⟩
theorem out_len {L : List Tok} {d F k i' d' e' : Nat} {x : Int} {R : Rs} (hn : L.length ≤ 200) (hR : ∀ j t b, R = .inr (j, t, b) → ∃ a, Grt L a b j t) (hF : F ≤ 4211) (h : OutR d F x k i' d' e' R) : (dg x.natAbs).length ≤ 1000 ∧ k ≤ 4010 := by
 cases R with
 | inl r =>
  obtain ⟨z, b⟩ := r
  obtain ⟨-, -, -, hsz, hk, -⟩ := h
  have := hsz.nine
  exact ⟨by omega, hk⟩
 | inr r =>
  obtain ⟨j, t, b⟩ := r
  obtain ⟨rfl, rfl, -⟩ := h
  obtain ⟨a, hg⟩ := hR _ _ _ rfl
  have := hg.fits hn
  exact ⟨by omega, this.2⟩
theorem out_neg {d dd F F' k i' d' e' : Nat} {x : Int} {R : Rs} (m : Bool) (hdd : d + 1 = dd) (h64 : d ≤ 64) (hF : F ≤ F') (h : OutR dd F x k i' d' e' R) : ∃ d1, d' = d1 + 1 ∧ d1 ≤ 64 ∧ OutR d F' (if m = true then -x else x) k i' d1 e' (Rs.neg m R) := by
 cases R with
 | inl r =>
  obtain ⟨z, b⟩ := r
  obtain ⟨h1, h2, h3, h4, h5, h6, h7⟩ := h
  refine ⟨d' - 1, by omega, by omega, h1, h2, h3, ?_, h5, by omega, by omega⟩
  split
  ·exact (h4.neg).mono hF
  ·exact h4.mono hF
 | inr r =>
  obtain ⟨j, t, b⟩ := r
  obtain ⟨h1, h2, h3, h4, h5⟩ := h
  refine ⟨d, by omega, h64, ?_, h2, h3, rfl, h5⟩
  rw [h1]
theorem fac_sign {w : World} {g B n c i d : Nat} {A : Option Addr} {L : List Tk4} (hs : StB w g A n c i d 0) (hr : RdK w B A n c L) (hp : B ≤ g) (hn : n ≤ 200) (hd : d ≤ 64) (hL : ∀ t ∈ L.map tok, t.2.size ≤ 30) {t : Tk4} (ht : L[i]? = some t) (hk : t.1 ≠ 4) (hst : sta (tok t) = true) (h64 : d < 64) (ho : isg (tok t) 40 = false) (HC : FacC L (i + 1)) : Calls Tryz.prog 81 #[.pointer (some ⟨g, 0, none⟩)] w (RetF w g A n c d (4210 - d) (FAC (L.map tok) d i)) := by
 have hlen := hr.len
 have hgw := hs.lt
 have E := Lib.hid (fac_start hs hr hp)
 have FQ := Lib.hid (FAC_sign (L := L.map tok) (d := d) (a := i) (t := tok t) (by rw [List.getElem?_map, ht]; rfl) hk hst h64 ho)
 obtain ⟨q, u0, rfl, h1, h2, h3, h4, -⟩ := hr.at_ ht
 obtain ⟨k, T, l, m⟩ := t
 have hk10 : k = 10 := sta_ten hst hk
 have dk : (k == 4) = false := by rw [beq_eq_false_iff_ne]; exact hk
 have d1 : decide ((n : Int) ≤ (i : Int)) = false := decide_eq_false (by omega)
 have d2 : decide (n ≤ i) = false := decide_eq_false (by omega)
 have d3 : decide (i < n) = true := decide_eq_true (by omega)
 have d4 : (0 : Int) ≤ (i : Int) := by omega
 have d5 : (i : Int) < (n : Int) := by omega
 have d6 : ((i : Int)).toNat = i := rfl
 have d7 : ¬ ((i : Int) < 0) := by omega
 have d8 : decide ((i : Int) < 0) = false := decide_eq_false (by omega)
 have d9 : ¬ ((n : Int) ≤ (i : Int)) := by omega
 have HLEN := Lib.hid hlen
 have HST : Hid (sta (k, T) = true) := hst
 have l40 : (T.toList == [40]) = false := litB (c := 40) (isg_txt ho hk10)
 have d64 : decide ((64 : Int) ≤ (d : Int)) = false := decide_eq_false (by omega)
 obtain ⟨i1, hi1⟩ : ∃ i1, i + 1 = i1 := ⟨_, rfl⟩
 have ei : (i : Int) + 1 = (i1 : Int) := by omega
 obtain ⟨dd, hdd⟩ : ∃ dd, d + 1 = dd := ⟨_, rfl⟩
 have ed : (d : Int) + 1 = (dd : Int) := by omega
 have HI := Lib.hid hi1
 have HDD := Lib.hid hdd
 rw [hi1, hdd] at FQ
 rw [hi1] at HC
 obtain ⟨bm, hbm⟩ : ∃ bm, isg (k, T) 45 = bm := ⟨_, rfl⟩
 have l45 : (T.toList == [45]) = bm := litB (c := 45) (isg_txt hbm hk10)
 have FN : Hid (FAC (L.map tok) d i = Rs.neg bm (FAC (L.map tok) dd i1)) := by
  show _ = _
  rw [FQ.out]
  show Rs.neg (isg (k, T) 45) _ = _
  rw [hbm]
 clear FQ hbm
 clear hs hr hk hlen hst ho hk10 hi1 hdd
 go_enter Tryz.func81, Tryz.ntmps81
 obtain ⟨p0, p1, p2, p3, pf0, pf1, pf2, pf3, plt⟩ := SX.facts E
 obtain ⟨q9, u9, hA9, _, _, hb9, _, a0, a1, a2, a3⟩ := E.out.rd.at_ ht
 obtain ⟨y1, y2⟩ := some_addr hA9
 rw [y1, y2] at a0 a1 a2 a3
 clear hA9 hb9 y1 y2
 go_wp2_with fail
 go_quiet (fail)
 replace E := Lib.hid (SX.step E.out (below_drewN (Below.refl _ _) nq))
 go_wp2_with fail
 go_quiet (fail)
 replace E := Lib.hid (SX.step E.out (below_drewN (Below.refl _ _) nq))
 go_wp2_with fail
 clear p0 p1 p2 p3 pf0 pf1 pf2 pf3 plt
 have C := tok_cells E.out.rd ht
 have S0 := (SX.facts E).c0
 have S1 := (SX.facts E).c1
 obtain ⟨S2, S3, S4, S5⟩ := C
 clear a0 a1 a2 a3
 generalize hV4 : World.drewN _ _ = V4 at E S0 S1 S2 S3 S4 S5 ⊢
 clear hV4
 go_region_held3 (fun v => v.cell? ⟨g, 0, none⟩ = some (.slice (some ⟨q, u0, none⟩) n c) ∧ v.cell? ⟨g, 1, none⟩ = some (.int .i64 (i : Int)) ∧ v.cell? ⟨q, u0 + i * 4, none⟩ = some (.int .i64 k) ∧ v.cell? ⟨q, u0 + i * 4 + 1, none⟩ = some (.string T) ∧ v.cell? ⟨q, u0 + i * 4 + 2, none⟩ = some (.int .i64 l) ∧ v.cell? ⟨q, u0 + i * 4 + 3, none⟩ = some (.int .i64 m)) (first | with_reducible exact ⟨(SX.facts E).c0, (SX.facts E).c1, (tok_cells E.out.rd ht).1, (tok_cells E.out.rd ht).2.1, (tok_cells E.out.rd ht).2.2.1, (tok_cells E.out.rd ht).2.2.2⟩ | go_keep) (first | (go_at_call 14; refine (starts13 HST.out l m _).mono ?_; rintro e w5 ⟨rfl, hb5⟩; replace E := Lib.hid (SX.step E.out ((Below.refl _ _).drew.trans hb5)); clear hb5))
 clear S0 S1 S2 S3 S4 S5
 obtain ⟨p0, p1, p2, p3, pf0, pf1, pf2, pf3, plt⟩ := SX.facts E
 obtain ⟨q9, u9, hA9, _, _, hb9, _, a0, a1, a2, a3⟩ := E.out.rd.at_ ht
 obtain ⟨y1, y2⟩ := some_addr hA9
 rw [y1, y2] at a0 a1 a2 a3
 clear hA9 hb9 y1 y2
 go_wp2_with fail
 go_quiet (fail)
 replace E := Lib.hid (SX.step E.out (below_drewN (Below.refl _ _) nq))
 clear p0 p1 p2 p3 pf0 pf1 pf2 pf3 plt
 clear a0 a1 a2 a3
 have hlt9 := (SX.az (g1 := w.heap.size) E (by simp)).lt
 have n3 : g ≠ w.heap.size := by omega
 have n4 : w.heap.size ≠ g := by omega
 generalize hV7 : World.drewN _ _ = V7 at E hlt9 ⊢
 clear hV7
 have n5 : g ≠ V7.heap.size := by omega
 have n6 : V7.heap.size ≠ g := by omega
 obtain ⟨p0, p1, p2, p3, pf0, pf1, pf2, pf3, plt⟩ := SX.facts E
 go_wp2_with fail
 clear p0 p1 p2 p3 pf0 pf1 pf2 pf3 plt
 replace E := Lib.hid (SX.lay (g1 := V7.heap.size) (x0 := .bool false) (x1 := .slice none 0 0) (x2 := .int .i64 0) (t := 26) (SX.set2 (SX.set1 E.out i1) dd) (by simp))
 refine (HC E.out.st E.out.rd hp hn (by omega)).mono ?_; rintro e w9 ⟨x9, k9, A9, n9, c9, b9, f9, e9, rfl, hnum, hst9, hkp9, hout⟩
 replace E := Lib.hid (SX.push (SX.call E.out hkp9 hst9) hnum)
 have hn9 : n9 ≤ 1000 ∧ k9 ≤ 4010 := by
  have h := out_len (L := L.map tok) (by rw [List.length_map]; have := HLEN.out; omega) (fun _ _ _ h => ⟨_, FAC_grt hL h⟩) (by omega) hout
  have h2 := hnum.len
  exact ⟨by omega, h.2⟩
 obtain ⟨f1, hf1, hf64, hO⟩ := out_neg (d := d) (F' := 4210 - d) bm HDD.out hd (by have := HDD.out; omega) hout
 have ef : (f9 : Int) - 1 = (f1 : Int) := by omega
 rw [← FN.out] at hO
 have HO := Lib.hid hO
 clear hnum hst9 hkp9 hO hf1 hout FN
 have n7 : V7.heap.size ≠ w.heap.size := by omega
 have n8 : w.heap.size ≠ V7.heap.size := fun e => n7 e.symm
 cases bm with
 | false =>
  obtain ⟨p0, p1, p2, p3, pf0, pf1, pf2, pf3, plt⟩ := SX.facts E
  obtain ⟨r0, r1, r2, rf0, rf1, rf2, rlt⟩ := SX.az (g1 := w.heap.size) E (by simp)
  obtain ⟨y0, y1, y2, yf0, yf1, yf2, ylt⟩ := SX.az (g1 := V7.heap.size) E (by simp)
  go_wp2_with fail
  clear p0 p1 p2 p3 pf0 pf1 pf2 pf3 plt
  clear r0 r1 r2 rf0 rf1 rf2 rlt; clear y0 y1 y2 yf0 yf1 yf2 ylt
  replace E := Lib.hid (SX.store E.out (g1 := V7.heap.size) (x0 := .bool false) (x1 := .slice none 0 0) (x2 := .int .i64 0) (by simp) (noLimb_bool _) (noLimb_slice _ _ _) (noLimb_int _) [(w.heap.size, .bool false, .slice none 0 0, .int .i64 0)] (fun q hq => by simp at hq; subst hq; exact ⟨by simp, by first | exact n7 | exact n8⟩) (.bool (ngB x9)) (.slice A9 n9 c9) (.int .i64 (k9 : Int)))
  replace E := Lib.hid (SX.set2 E.out f1)
  have EF := Lib.hid (SX.sz E.out (g1 := w.heap.size) (by simp) (.bool (ngB x9)) (.slice A9 n9 c9) (.int .i64 (k9 : Int)))
  obtain ⟨r0, r1, r2, _, _, _, _⟩ := SX.ad x9 A9 n9 c9 k9 (g1 := w.heap.size) EF (by simp)
  exact bodyPost_ret (v := .agg #[.bool (ngB x9), .slice A9 n9 c9, .int .i64 (k9 : Int)]) (by simp [results, Tryz.results81, go_sem, r0, r1, r2]) rfl ⟨x9, k9, A9, n9, c9, _, _, _, rfl, SX.got EF (by simp), EF.out.st, EF.out.kp, HO.out⟩
 | true =>
  obtain ⟨p0, p1, p2, p3, pf0, pf1, pf2, pf3, plt⟩ := SX.facts E
  obtain ⟨r0, r1, r2, rf0, rf1, rf2, rlt⟩ := SX.az (g1 := w.heap.size) E (by simp)
  obtain ⟨y0, y1, y2, yf0, yf1, yf2, ylt⟩ := SX.az (g1 := V7.heap.size) E (by simp)
  go_wp2_with fail
  clear p0 p1 p2 p3 pf0 pf1 pf2 pf3 plt
  clear r0 r1 r2 rf0 rf1 rf2 rlt; clear y0 y1 y2 yf0 yf1 yf2 ylt
  replace E := Lib.hid (SX.store E.out (g1 := V7.heap.size) (x0 := .bool false) (x1 := .slice none 0 0) (x2 := .int .i64 0) (by simp) (noLimb_bool _) (noLimb_slice _ _ _) (noLimb_int _) [(w.heap.size, .bool false, .slice none 0 0, .int .i64 0)] (fun q hq => by simp at hq; subst hq; exact ⟨by simp, by first | exact n7 | exact n8⟩) (.bool (ngB x9)) (.slice A9 n9 c9) (.int .i64 (k9 : Int)))
  refine (refneg_is5 (s := k9) (SX.got (A1 := A9) (n1 := n9) (c1 := c9) E (by simp)) (by omega) (by omega) rfl).mono ?_; rintro e w10 ⟨A2, n2, c2, rfl, hnum2, hb10⟩
  replace E := Lib.hid (SX.push (SX.step E.out hb10) hnum2)
  clear hnum2 hb10
  obtain ⟨p0, p1, p2, p3, pf0, pf1, pf2, pf3, plt⟩ := SX.facts E
  obtain ⟨r0, r1, r2, rf0, rf1, rf2, rlt⟩ := SX.az (g1 := w.heap.size) E (by simp)
  obtain ⟨y0, y1, y2, yf0, yf1, yf2, ylt⟩ := SX.ad x9 A9 n9 c9 k9 (g1 := V7.heap.size) E (by simp)
  go_wp2_with fail
  clear p0 p1 p2 p3 pf0 pf1 pf2 pf3 plt
  clear r0 r1 r2 rf0 rf1 rf2 rlt; clear y0 y1 y2 yf0 yf1 yf2 ylt
  replace E := Lib.hid (SX.store E.out (g1 := V7.heap.size) (x0 := .bool (ngB x9)) (x1 := .slice A9 n9 c9) (x2 := .int .i64 (k9 : Int)) (by simp) (noLimb_bool _) (noLimb_slice _ _ _) (noLimb_int _) [(w.heap.size, .bool false, .slice none 0 0, .int .i64 0)] (fun q hq => by simp at hq; subst hq; exact ⟨by simp, by first | exact n7 | exact n8⟩) (.bool (ngB (-x9))) (.slice A2 n2 c2) (.int .i64 (k9 : Int)))
  replace E := Lib.hid (SX.set2 E.out f1)
  have EF := Lib.hid (SX.sz E.out (g1 := w.heap.size) (by simp) (.bool (ngB (-x9))) (.slice A2 n2 c2) (.int .i64 (k9 : Int)))
  obtain ⟨r0, r1, r2, _, _, _, _⟩ := SX.at_ (x0 := .bool (ngB (-x9))) (x1 := .slice A2 n2 c2) (x2 := .int .i64 (k9 : Int)) (g1 := w.heap.size) EF (by simp)
  exact bodyPost_ret (v := .agg #[.bool (ngB (-x9)), .slice A2 n2 c2, .int .i64 (k9 : Int)]) (by simp [results, Tryz.results81, go_sem, r0, r1, r2]) rfl ⟨(-x9), k9, A2, n2, c2, _, _, _, rfl, SX.got EF (by simp), EF.out.st, EF.out.kp, HO.out⟩
theorem factor_of {L : List Tk4} {i : Nat} (hL : ∀ t ∈ L.map tok, t.2.size ≤ 30) (HS : i < L.length → SumC L (i + 1)) (HF : i < L.length → FacC L (i + 1)) (hi : i ≤ L.length) : FacC L i := by
 intro w g B n c d A hs hr hp hn hd
 have hlen := hr.len
 rcases Nat.lt_or_ge i n with h | h
 ·obtain ⟨t, ht⟩ : ∃ t, L[i]? = some t := ⟨_, List.getElem?_eq_getElem (by omega)⟩
  by_cases hk : t.1 = 4
  ·exact fac_num hs hr hp hn hd ht hk (hL (tok t) (List.mem_map_of_mem (List.mem_of_getElem? ht)))
  ·cases hst : sta (tok t) with
   | false => exact fac_not hs hr hp hn hd ht hk hst
   | true =>
    rcases Nat.lt_or_ge d 64 with h64 | h64
    ·cases ho : isg (tok t) 40 with
     | true => exact fac_open hs hr hp hn hd hL ht hk hst h64 ho (HS (by omega))
     | false => exact fac_sign hs hr hp hn hd hL ht hk hst h64 ho (HF (by omega))
    ·exact fac_deep hs hr hp hn hd ht hk hst (by omega)
 ·exact fac_end hs hr hp hn hd (by omega)
def SumI (L : List Tok) (d i : Nat) (x : Int) (k i1 d1 e1 : Nat) : Prop :=
 (e1 = 0 ∧ d1 = d ∧ SUM L d i = SUML L d x k i1 ∧ Grt L i i1 x k) ∨ (0 < e1 ∧ OutR d (4211 - d) x k i1 d1 e1 (SUM L d i))
def ProI (L : List Tok) (d i : Nat) (x : Int) (k i1 d1 e1 : Nat) : Prop :=
 (e1 = 0 ∧ d1 = d ∧ PRO L d i = PROL L d x k i1 ∧ Grt L i i1 x k) ∨ (0 < e1 ∧ OutR d (4210 - d) x k i1 d1 e1 (PRO L d i))
theorem OutR.mono {d F F' k i1 d1 e1 : Nat} {x : Int} {R : Rs} (h : OutR d F x k i1 d1 e1 R) (hF : F ≤ F') : OutR d F' x k i1 d1 e1 R := by
 cases R with
 | inl r =>
  obtain ⟨z, b⟩ := r
  obtain ⟨h1, h2, h3, h4, h5, h6, h7⟩ := h
  exact ⟨h1, h2, h3, h4.mono hF, h5, h6, h7⟩
 | inr r => exact h
theorem OutR.other {d F F' k i1 d1 e1 k' : Nat} {x y : Int} {e : Nat × Nat} (h : OutR d F x k i1 d1 e1 (.inl e)) (hy : Sz y k' F') (hk : k' ≤ 4010) : OutR d F' y k' i1 d1 e1 (.inl e) := by
 obtain ⟨z, b⟩ := e
 obtain ⟨h1, h2, h3, h4, h5, h6, h7⟩ := h
 exact ⟨h1, h2, h3, hy, hk, h6, h7⟩
section
variable {L : List Tok} (hL : ∀ t ∈ L, t.2.size ≤ 30) (hn : L.length ≤ 200) {d i i1 d1 e1 i2 d2 e2 k t F : Nat} {x y : Int} (hd : d ≤ 64)
include hn in
theorem Grt.sz (h : Grt L i i1 x k) : Sz x k 4010 ∧ k ≤ 4010 ∧ i1 ≤ 200 := by
 obtain ⟨q1, q2, q3, q4⟩ := h
 exact ⟨q3.mono (by omega), by omega, by omega⟩
include hL in
theorem SumI.start (h : OutR d (4210 - d) x k i1 d1 e1 (PRO L d i)) : SumI L d i x k i1 d1 e1 := by
 cases hP : PRO L d i with
 | inl e =>
  obtain ⟨z, b⟩ := e
  rw [hP] at h
  refine .inr ⟨by obtain ⟨h1, h2, -⟩ := h; omega, ?_⟩
  rw [SUM_err hP]; exact h.mono (by omega)
 | inr r =>
  obtain ⟨j, s, b⟩ := r
  rw [hP] at h
  obtain ⟨rfl, rfl, rfl, rfl, rfl⟩ := h
  exact .inl ⟨rfl, rfl, SUM_go hP, PRO_grt hL hP⟩
include hL in
theorem ProI.start (h : OutR d (4210 - d) x k i1 d1 e1 (FAC L d i)) : ProI L d i x k i1 d1 e1 := by
 cases hP : FAC L d i with
 | inl e =>
  obtain ⟨z, b⟩ := e
  rw [hP] at h
  refine .inr ⟨by obtain ⟨h1, h2, -⟩ := h; omega, ?_⟩
  rw [PRO_err hP]; exact h
 | inr r =>
  obtain ⟨j, s, b⟩ := r
  rw [hP] at h
  obtain ⟨rfl, rfl, rfl, rfl, rfl⟩ := h
  exact .inl ⟨rfl, rfl, PRO_go hP, FAC_grt hL hP⟩
theorem SumI.done (h : SumI L d i x k i1 d1 0) (h1 : isAt L i1 43 = false) (h2 : isAt L i1 45 = false) : OutR d (4211 - d) x k i1 d1 0 (SUM L d i) := by
 rcases h with ⟨_, h3, h4, -⟩ | ⟨h3, -⟩
 ·rw [h4, SUML_end h1 h2]; exact ⟨rfl, rfl, rfl, h3, rfl⟩
 ·omega
theorem SumI.out (h : SumI L d i x k i1 d1 e1) (h0 : 0 < e1) : OutR d (4211 - d) x k i1 d1 e1 (SUM L d i) := by
 rcases h with ⟨h3, -⟩ | ⟨-, h3⟩
 ·omega
 ·exact h3
theorem ProI.done (h : ProI L d i x k i1 d1 0) (h1 : isAt L i1 42 = false) (h2 : isAt L i1 47 = false) : OutR d (4210 - d) x k i1 d1 0 (PRO L d i) := by
 rcases h with ⟨_, h3, h4, -⟩ | ⟨h3, -⟩
 ·rw [h4, PROL_end h1 h2]; exact ⟨rfl, rfl, rfl, h3, rfl⟩
 ·omega
theorem ProI.out (h : ProI L d i x k i1 d1 e1) (h0 : 0 < e1) : OutR d (4210 - d) x k i1 d1 e1 (PRO L d i) := by
 rcases h with ⟨h3, -⟩ | ⟨-, h3⟩
 ·omega
 ·exact h3
theorem SumI.nought (h : SumI L d i x k i1 d1 0) : d1 = d ∧ SUM L d i = SUML L d x k i1 ∧ Grt L i i1 x k := by
 rcases h with ⟨_, h3⟩ | ⟨h3, -⟩
 ·exact h3
 ·omega
theorem ProI.nought (h : ProI L d i x k i1 d1 0) : d1 = d ∧ PRO L d i = PROL L d x k i1 ∧ Grt L i i1 x k := by
 rcases h with ⟨_, h3⟩ | ⟨h3, -⟩
 ·exact h3
 ·omega
include hL hn hd in
theorem SumI.add (h : SumI L d i x k i1 d 0) (h1 : isAt L i1 43 = true) (ho : OutR d (4210 - d) y t i2 d2 e2 (PRO L d (i1 + 1))) : SumI L d i (addZ x k y t) (max k t) i2 d2 e2 := by
 obtain ⟨-, h4, hg⟩ := h.nought
 cases hP : PRO L d (i1 + 1) with
 | inl e =>
  rw [hP] at ho
  obtain ⟨q1, q2, -⟩ := hg.sz hn
  have hz : e2 = e.1 ∧ 0 < e.1 ∧ Sz y t (4210 - d) ∧ t ≤ 4010 := by obtain ⟨z, b⟩ := e; obtain ⟨r1, r2, r3, r4, r5, -⟩ := ho; exact ⟨r2, r1, r4, r5⟩
  refine .inr ⟨by omega, ?_⟩
  rw [h4, SUML_err (.inl h1) hP]
  exact ho.other ((q1.add hz.2.2.1).mono (by omega)) (by omega)
 | inr r =>
  obtain ⟨j, s, b⟩ := r
  rw [hP] at ho
  obtain ⟨rfl, rfl, rfl, rfl, rfl⟩ := ho
  exact .inl ⟨rfl, rfl, by rw [h4, SUML_add h1 hP], hg.add (PRO_grt hL hP)⟩
include hL hn hd in
theorem SumI.sub (h : SumI L d i x k i1 d 0) (h0 : isAt L i1 43 = false) (h1 : isAt L i1 45 = true) (ho : OutR d (4210 - d) y t i2 d2 e2 (PRO L d (i1 + 1))) : SumI L d i (subZ x k y t) (max k t) i2 d2 e2 := by
 obtain ⟨-, h4, hg⟩ := h.nought
 cases hP : PRO L d (i1 + 1) with
 | inl e =>
  rw [hP] at ho
  obtain ⟨q1, q2, -⟩ := hg.sz hn
  have hz : e2 = e.1 ∧ 0 < e.1 ∧ Sz y t (4210 - d) ∧ t ≤ 4010 := by obtain ⟨z, b⟩ := e; obtain ⟨r1, r2, r3, r4, r5, -⟩ := ho; exact ⟨r2, r1, r4, r5⟩
  refine .inr ⟨by omega, ?_⟩
  rw [h4, SUML_err (.inr h1) hP]
  exact ho.other ((q1.sub hz.2.2.1).mono (by omega)) (by omega)
 | inr r =>
  obtain ⟨j, s, b⟩ := r
  rw [hP] at ho
  obtain ⟨rfl, rfl, rfl, rfl, rfl⟩ := ho
  exact .inl ⟨rfl, rfl, by rw [h4, SUML_sub h0 h1 hP], hg.sub (PRO_grt hL hP)⟩
include hn hd in
theorem ProI.err (h : ProI L d i x k i1 d 0) (h1 : isAt L i1 42 = true ∨ isAt L i1 47 = true) (ho : OutR d (4210 - d) y t i2 d2 e2 (FAC L d (i1 + 1))) (h0 : 0 < e2) : ProI L d i x k i2 d2 e2 := by
 obtain ⟨-, h4, hg⟩ := h.nought
 cases hP : FAC L d (i1 + 1) with
 | inl e =>
  rw [hP] at ho
  obtain ⟨q1, q2, -⟩ := hg.sz hn
  refine .inr ⟨h0, ?_⟩
  rw [h4, PROL_err h1 hP]
  exact ho.other (q1.mono (by omega)) q2
 | inr r =>
  obtain ⟨j, s, b⟩ := r
  rw [hP] at ho
  obtain ⟨-, -, -, -, h5⟩ := ho
  omega
theorem fac_good (ho : OutR d F y t i2 d2 0 (FAC L d i)) : d2 = d ∧ FAC L d i = .inr (y, t, i2) := by
 cases hP : FAC L d i with
 | inl e =>
  rw [hP] at ho
  obtain ⟨z, b⟩ := e
  obtain ⟨r1, r2, -⟩ := ho
  omega
 | inr r =>
  obtain ⟨j, s, b⟩ := r
  rw [hP] at ho
  obtain ⟨rfl, rfl, rfl, h4, -⟩ := ho
  exact ⟨h4, rfl⟩
include hL in
theorem ProI.mul (h : ProI L d i x k i1 d 0) (h1 : isAt L i1 42 = true) (ho : FAC L d (i1 + 1) = .inr (y, t, i2)) : ProI L d i (x * y) (k + t) i2 d 0 := by
 obtain ⟨-, h4, hg⟩ := h.nought
 exact .inl ⟨rfl, rfl, by rw [h4, PROL_mul h1 ho], hg.mul (FAC_grt hL ho)⟩
include hL in
theorem ProI.quo (h : ProI L d i x k i1 d 0) (h0 : isAt L i1 42 = false) (h1 : isAt L i1 47 = true) (ho : FAC L d (i1 + 1) = .inr (y, t, i2)) (hy : y ≠ 0) : ProI L d i (quoI x k y t) (quoK x k y t) i2 d 0 := by
 obtain ⟨-, h4, hg⟩ := h.nought
 exact .inl ⟨rfl, rfl, by rw [h4, PROL_quo h0 h1 ho hy], hg.quo (FAC_grt hL ho) hy⟩
include hL hn in
theorem quo_len (hg : Grt L i i1 x k) (ho : FAC L d (i1 + 1) = .inr (y, t, i2)) (hy : y ≠ 0) : (dg (quoQ x k y t).natAbs).length ≤ 1000 := by
 obtain ⟨q1, q2, q3, q4⟩ := hg
 obtain ⟨g1, g2, g3, g4⟩ := FAC_grt hL ho
 have := (quoQ_size (t := t) q3 hy).nine
 omega
include hL hn hd in
theorem SumI.fits (h : SumI L d i x k i1 d1 e1) : (dg x.natAbs).length ≤ 1000 ∧ k ≤ 4010 := by
 rcases h with ⟨_, _, _, hg⟩ | ⟨_, h⟩
 ·have := hg.fits hn; exact ⟨by omega, this.2⟩
 ·exact out_len hn (fun _ _ _ hr => ⟨_, SUM_grt hL hr⟩) (by omega) h
include hL hn hd in
theorem ProI.fits (h : ProI L d i x k i1 d1 e1) : (dg x.natAbs).length ≤ 1000 ∧ k ≤ 4010 := by
 rcases h with ⟨_, _, _, hg⟩ | ⟨_, h⟩
 ·have := hg.fits hn; exact ⟨by omega, this.2⟩
 ·exact out_len hn (fun _ _ _ hr => ⟨_, PRO_grt hL hr⟩) (by omega) h
theorem pro_later {n : Nat} (ho : OutR d F y t i2 d2 e2 (PRO L d (i1 + 1))) (hi : i1 < n) : (if e2 = 0 then n + 1 - i2 else 0) < (if 0 = 0 then n + 1 - i1 else 0) := by
 cases hP : PRO L d (i1 + 1) with
 | inl e =>
  rw [hP] at ho
  obtain ⟨z, b⟩ := e
  obtain ⟨r1, r2, -⟩ := ho
  rw [if_neg (by omega), if_pos rfl]; omega
 | inr r =>
  obtain ⟨j, s, b⟩ := r
  rw [hP] at ho
  obtain ⟨-, -, r3, -, r5⟩ := ho
  have := PRO_lt hP rfl
  rw [if_pos r5, if_pos rfl]; omega
theorem fac_later {n : Nat} (ho : OutR d F y t i2 d2 e2 (FAC L d (i1 + 1))) (hi : i1 < n) : (if e2 = 0 then n + 1 - i2 else 0) < (if 0 = 0 then n + 1 - i1 else 0) := by
 cases hP : FAC L d (i1 + 1) with
 | inl e =>
  rw [hP] at ho
  obtain ⟨z, b⟩ := e
  obtain ⟨r1, r2, -⟩ := ho
  rw [if_neg (by omega), if_pos rfl]; omega
 | inr r =>
  obtain ⟨j, s, b⟩ := r
  rw [hP] at ho
  obtain ⟨-, -, r3, -, r5⟩ := ho
  have := FAC_lt hP rfl
  rw [if_pos r5, if_pos rfl]; omega
end
def msr (g n : Nat) (w : World) : Nat := if (w.cell? ⟨g, 3, none⟩).any (fun v => decide (intOf v = 0)) = true then n + 1 - (match w.cell? ⟨g, 1, none⟩ with | some v => (intOf v).toNat | none => 0) else 0
theorem msr_is {w : World} {g n c i d e : Nat} {A : Option Addr} (h : StB w g A n c i d e) : msr g n w = if e = 0 then n + 1 - i else 0 := by
 have p := h.bx
 unfold msr
 rw [p.c3, p.c1]
 show (if decide ((e : Int) = 0) = true then n + 1 - ((i : Int)).toNat else 0) = _
 rw [Int.toNat_natCast]
 by_cases he : e = 0
 ·subst he
  simp
 ·rw [if_neg he, if_neg (by rw [decide_eq_true_iff]; omega)]
theorem sum_of {L : List Tk4} {i : Nat} (hL : ∀ t ∈ L.map tok, t.2.size ≤ 30) (hi : i ≤ L.length) (HP : ∀ j, i ≤ j → j ≤ L.length → ProC L j) : SumC L i := by
 intro w g B n c d A hs hr hp hn hd
 have hlen := hr.len
 have hgw := hs.lt
 have HLEN := Lib.hid hlen
 have hll : (L.map tok).length ≤ 200 := by rw [List.length_map]; omega
 have HLL := Lib.hid hll
 have HPI : ProC L i := HP i (Nat.le_refl _) hi
 have E := Lib.hid (fac_start hs hr hp)
 have hin : i ≤ n := by omega
 clear hs hr hlen hll hi
 go_enter Tryz.func26, Tryz.ntmps26
 go_wp2_with fail
 refine (HPI E.out.st E.out.rd hp hn hd).mono ?_; rintro e w9 ⟨x9, k9, A9, n9, c9, b9, f9, e9, rfl, hnum, hst9, hkp9, hout⟩
 have I0 := Lib.hid (SumI.start hL hout)
 replace E := Lib.hid (SX.push (SX.call E.out hkp9 hst9) hnum)
 clear hnum hst9 hkp9 hout
 have hlt9 := (SX.az (g1 := w.heap.size) E (by simp)).lt
 have hgw9 := E.out.st.lt
 go_wp2_with fail
 replace E := Lib.hid (SX.lay (g1 := w9.heap.size) (x0 := .bool (ngB x9)) (x1 := .slice A9 n9 c9) (x2 := .int .i64 (k9 : Int)) (t := 26) E.out rfl)
 have hf9 : n9 ≤ 1000 ∧ k9 ≤ 4010 := by
  have h1 := SumI.fits hL HLL.out hd I0.out
  have h2 := (SX.got (A1 := A9) (n1 := n9) (c1 := c9) (x := x9.natAbs) E (by simp)).len
  omega
 generalize hW : World.alloc w9 _ = W0 at E ⊢
 clear hW
 obtain ⟨g3, hg3⟩ : ∃ g3, w9.heap.size = g3 := ⟨_, rfl⟩
 rw [hg3] at E hlt9 hgw9 ⊢
 clear hg3
 have n1 : g ≠ g3 := by omega
 have n2 : g3 ≠ g := by omega
 have n3 : g ≠ w.heap.size := by omega
 have n4 : w.heap.size ≠ g := by omega
 have n5 : g3 ≠ w.heap.size := by omega
 have n6 : w.heap.size ≠ g3 := by omega
 go_loopw [4] (fun _ wr => ∃ (x : Int) (k : Nat) (A1 : Option Addr) (n1 c1 i1 d1 e1 : Nat), n1 ≤ 1000 ∧ k ≤ 4010 ∧ SX w wr g B A n c L i1 d1 e1 [(A1, n1, c1, x.natAbs)] [(g3, .bool (ngB x), .slice A1 n1 c1, .int .i64 (k : Int)), (w.heap.size, .bool false, .slice none 0 0, .int .i64 0)] ∧ SumI (L.map tok) d i x k i1 d1 e1) (fun _ wr => msr g n wr)
 case atStart => exact ⟨x9, k9, A9, n9, c9, _, _, _, hf9.1, hf9.2, E.out, I0.out⟩
 case round =>
  obtain ⟨x, k, A1, n1, c1, i1, d1, e1, hn1, hk1, hE, hI⟩ := hrel
  replace E := Lib.hid hE
  have S0 := Lib.hid hE.st
  have I := Lib.hid hI
  clear hE hI I0 hf9
  rcases Nat.eq_zero_or_pos e1 with h0 | h0
  ·subst h0
   obtain ⟨hd1, _, hg⟩ := I.out.nought
   obtain rfl := hd1.symm
   have hi1 := (hg.sz HLL.out).2.2
   have HGE := Lib.hid hg.1
   clear hg
   cases h43 : isAt (L.map tok) i1 43 with
   | true =>
    obtain ⟨p0, p1, p2, p3, pf0, pf1, pf2, pf3, plt⟩ := SX.facts E
    go_wp2_with fail
    clear p0 p1 p2 p3 pf0 pf1 pf2 pf3 plt
    refine (is13 E.out.st E.out.rd (by have := E.out.pl; have := E.out.st.lt; omega) (by omega) (by omega) (s := ⟨#[43]⟩) rfl h43).mono ?_; rintro e w9 ⟨rfl, hb9⟩
    replace E := Lib.hid (SX.step E.out hb9)
    clear hb9
    go_wp2_with fail
    refine (is13 E.out.st E.out.rd (by have := E.out.pl; have := E.out.st.lt; omega) (by omega) (by omega) (s := ⟨#[43]⟩) rfl h43).mono ?_; rintro e w9 ⟨rfl, hb9⟩
    replace E := Lib.hid (SX.step E.out hb9)
    clear hb9
    have hin2 : i1 < n := by have h := isAt_lt h43; rw [List.length_map] at h; have := HLEN.out; omega
    obtain ⟨i2, hi2⟩ : ∃ i2, i1 + 1 = i2 := ⟨_, rfl⟩
    have ei : (i1 : Int) + 1 = (i2 : Int) := by omega
    have I2 := Lib.hid hi2
    have HPJ : ProC L i2 := HP i2 (by have := HGE.out; omega) (by have := HLEN.out; omega)
    clear hi2
    obtain ⟨p0, p1, p2, p3, pf0, pf1, pf2, pf3, plt⟩ := SX.facts E
    go_wp2_with fail
    clear p0 p1 p2 p3 pf0 pf1 pf2 pf3 plt
    replace E := Lib.hid (SX.set1 E.out i2)
    refine (HPJ E.out.st E.out.rd hp hn hd).mono ?_; rintro e w9 ⟨y9, k9, A9, n9, c9, b9, f9, e9, rfl, hnum, hst9, hkp9, hout⟩
    rw [← I2.out] at hout
    have J := Lib.hid (SumI.add hL HLL.out hd I.out h43 hout)
    have ML := Lib.hid (pro_later hout hin2)
    have hf9 : n9 ≤ 1000 ∧ k9 ≤ 4010 := by
     have h1 := out_len HLL.out (fun _ _ _ h => ⟨_, PRO_grt hL h⟩) (by omega) hout
     have h2 := hnum.len
     omega
    replace E := Lib.hid (SX.push (SX.call E.out hkp9 hst9) hnum)
    clear hnum hst9 hkp9 hout
    have hlt10 := (SX.ad x A1 n1 c1 k (g1 := g3) E (by simp)).lt
    obtain ⟨r0, r1, r2, rf0, rf1, rf2, rlt⟩ := SX.ad x A1 n1 c1 k (g1 := g3) E (by simp)
    go_wp2_with fail
    clear r0 r1 r2 rf0 rf1 rf2 rlt
    replace E := Lib.hid (SX.lay (g1 := w9.heap.size) (x0 := .bool (ngB y9)) (x1 := .slice A9 n9 c9) (x2 := .int .i64 (k9 : Int)) (t := 26) E.out rfl)
    refine (refadd_is5 (i := x) (j := y9) (s := k) (t := k9) (SX.got (A1 := A1) (n1 := n1) (c1 := c1) E (by simp)) (SX.got (A1 := A9) (n1 := n9) (c1 := c9) E (by simp)) (by omega) (by omega) (by omega) (by omega) rfl rfl).mono ?_; rintro e w10 ⟨A2, n2, c2, rfl, hnum2, hb10⟩
    have hf2 : n2 ≤ 1000 ∧ max k k9 ≤ 4010 := by
     have h1 := SumI.fits hL HLL.out hd J.out
     have h2 := hnum2.len
     omega
    replace E := Lib.hid (SX.push (SX.step E.out hb10) hnum2)
    clear hnum2 hb10
    obtain ⟨r0, r1, r2, rf0, rf1, rf2, rlt⟩ := SX.ad x A1 n1 c1 k (g1 := g3) E (by simp)
    go_wp2_with fail
    clear r0 r1 r2 rf0 rf1 rf2 rlt
    replace E := Lib.hid (SX.sub (l' := [(A2, n2, c2, (addZ x k y9 k9).natAbs)]) (bs' := [(g3, .bool (ngB x), .slice A1 n1 c1, .int .i64 (k : Int)), (w.heap.size, .bool false, .slice none 0 0, .int .i64 0)]) E.out (by simp) (by simp))
    replace E := Lib.hid (SX.store E.out (g1 := g3) (x0 := .bool (ngB x)) (x1 := .slice A1 n1 c1) (x2 := .int .i64 (k : Int)) (by simp) (noLimb_bool _) (noLimb_slice _ _ _) (noLimb_int _) [(w.heap.size, .bool false, .slice none 0 0, .int .i64 0)] (fun q hq => by simp at hq; subst hq; exact ⟨by simp, n5⟩) (.bool (ngB (addZ x k y9 k9))) (.slice A2 n2 c2) (.int .i64 ((max k k9 : Nat) : Int)))
    go_roundw
    case rel => exact ⟨addZ x k y9 k9, max k k9, A2, n2, c2, _, _, _, hf2.1, hf2.2, E.out, J.out⟩
    case measure =>
     show msr g n _ < msr g n _
     rw [msr_is E.out.st, msr_is S0.out]
     exact ML.out
   | false =>
    cases h45 : isAt (L.map tok) i1 45 with
    | true =>
     obtain ⟨p0, p1, p2, p3, pf0, pf1, pf2, pf3, plt⟩ := SX.facts E
     go_wp2_with fail
     clear p0 p1 p2 p3 pf0 pf1 pf2 pf3 plt
     refine (is13 E.out.st E.out.rd (by have := E.out.pl; have := E.out.st.lt; omega) (by omega) (by omega) (s := ⟨#[43]⟩) rfl h43).mono ?_; rintro e w9 ⟨rfl, hb9⟩
     replace E := Lib.hid (SX.step E.out hb9)
     clear hb9
     go_wp2_with fail
     refine (is13 E.out.st E.out.rd (by have := E.out.pl; have := E.out.st.lt; omega) (by omega) (by omega) (s := ⟨#[45]⟩) rfl h45).mono ?_; rintro e w9 ⟨rfl, hb9⟩
     replace E := Lib.hid (SX.step E.out hb9)
     clear hb9
     go_wp2_with fail
     refine (is13 E.out.st E.out.rd (by have := E.out.pl; have := E.out.st.lt; omega) (by omega) (by omega) (s := ⟨#[43]⟩) rfl h43).mono ?_; rintro e w9 ⟨rfl, hb9⟩
     replace E := Lib.hid (SX.step E.out hb9)
     clear hb9
     have hin2 : i1 < n := by have h := isAt_lt h45; rw [List.length_map] at h; have := HLEN.out; omega
     obtain ⟨i2, hi2⟩ : ∃ i2, i1 + 1 = i2 := ⟨_, rfl⟩
     have ei : (i1 : Int) + 1 = (i2 : Int) := by omega
     have I2 := Lib.hid hi2
     have HPJ : ProC L i2 := HP i2 (by have := HGE.out; omega) (by have := HLEN.out; omega)
     clear hi2
     obtain ⟨p0, p1, p2, p3, pf0, pf1, pf2, pf3, plt⟩ := SX.facts E
     go_wp2_with fail
     clear p0 p1 p2 p3 pf0 pf1 pf2 pf3 plt
     replace E := Lib.hid (SX.set1 E.out i2)
     refine (HPJ E.out.st E.out.rd hp hn hd).mono ?_; rintro e w9 ⟨y9, k9, A9, n9, c9, b9, f9, e9, rfl, hnum, hst9, hkp9, hout⟩
     rw [← I2.out] at hout
     have J := Lib.hid (SumI.sub hL HLL.out hd I.out h43 h45 hout)
     have ML := Lib.hid (pro_later hout hin2)
     have hf9 : n9 ≤ 1000 ∧ k9 ≤ 4010 := by
      have h1 := out_len HLL.out (fun _ _ _ h => ⟨_, PRO_grt hL h⟩) (by omega) hout
      have h2 := hnum.len
      omega
     replace E := Lib.hid (SX.push (SX.call E.out hkp9 hst9) hnum)
     clear hnum hst9 hkp9 hout
     have hlt10 := (SX.ad x A1 n1 c1 k (g1 := g3) E (by simp)).lt
     obtain ⟨r0, r1, r2, rf0, rf1, rf2, rlt⟩ := SX.ad x A1 n1 c1 k (g1 := g3) E (by simp)
     go_wp2_with fail
     clear r0 r1 r2 rf0 rf1 rf2 rlt
     replace E := Lib.hid (SX.lay (g1 := w9.heap.size) (x0 := .bool (ngB y9)) (x1 := .slice A9 n9 c9) (x2 := .int .i64 (k9 : Int)) (t := 26) E.out rfl)
     refine (refsub_is5 (i := x) (j := y9) (s := k) (t := k9) (SX.got (A1 := A1) (n1 := n1) (c1 := c1) E (by simp)) (SX.got (A1 := A9) (n1 := n9) (c1 := c9) E (by simp)) (by omega) (by omega) (by omega) (by omega) rfl rfl).mono ?_; rintro e w10 ⟨A2, n2, c2, rfl, hnum2, hb10⟩
     have hf2 : n2 ≤ 1000 ∧ max k k9 ≤ 4010 := by
      have h1 := SumI.fits hL HLL.out hd J.out
      have h2 := hnum2.len
      omega
     replace E := Lib.hid (SX.push (SX.step E.out hb10) hnum2)
     clear hnum2 hb10
     obtain ⟨r0, r1, r2, rf0, rf1, rf2, rlt⟩ := SX.ad x A1 n1 c1 k (g1 := g3) E (by simp)
     go_wp2_with fail
     clear r0 r1 r2 rf0 rf1 rf2 rlt
     replace E := Lib.hid (SX.sub (l' := [(A2, n2, c2, (subZ x k y9 k9).natAbs)]) (bs' := [(g3, .bool (ngB x), .slice A1 n1 c1, .int .i64 (k : Int)), (w.heap.size, .bool false, .slice none 0 0, .int .i64 0)]) E.out (by simp) (by simp))
     replace E := Lib.hid (SX.store E.out (g1 := g3) (x0 := .bool (ngB x)) (x1 := .slice A1 n1 c1) (x2 := .int .i64 (k : Int)) (by simp) (noLimb_bool _) (noLimb_slice _ _ _) (noLimb_int _) [(w.heap.size, .bool false, .slice none 0 0, .int .i64 0)] (fun q hq => by simp at hq; subst hq; exact ⟨by simp, n5⟩) (.bool (ngB (subZ x k y9 k9))) (.slice A2 n2 c2) (.int .i64 ((max k k9 : Nat) : Int)))
     go_roundw
     case rel => exact ⟨subZ x k y9 k9, max k k9, A2, n2, c2, _, _, _, hf2.1, hf2.2, E.out, J.out⟩
     case measure =>
      show msr g n _ < msr g n _
      rw [msr_is E.out.st, msr_is S0.out]
      exact ML.out
    | false =>
     obtain ⟨p0, p1, p2, p3, pf0, pf1, pf2, pf3, plt⟩ := SX.facts E
     go_wp2_with fail
     clear p0 p1 p2 p3 pf0 pf1 pf2 pf3 plt
     refine (is13 E.out.st E.out.rd (by have := E.out.pl; have := E.out.st.lt; omega) (by omega) (by omega) (s := ⟨#[43]⟩) rfl h43).mono ?_; rintro e w9 ⟨rfl, hb9⟩
     replace E := Lib.hid (SX.step E.out hb9)
     clear hb9
     go_wp2_with fail
     refine (is13 E.out.st E.out.rd (by have := E.out.pl; have := E.out.st.lt; omega) (by omega) (by omega) (s := ⟨#[45]⟩) rfl h45).mono ?_; rintro e w9 ⟨rfl, hb9⟩
     replace E := Lib.hid (SX.step E.out hb9)
     clear hb9
     have HO := Lib.hid (I.out.done h43 h45)
     obtain ⟨r0, r1, r2, rf0, rf1, rf2, rlt⟩ := SX.az (g1 := w.heap.size) E (by simp)
     obtain ⟨y0, y1, y2, yf0, yf1, yf2, ylt⟩ := SX.ad x A1 n1 c1 k (g1 := g3) E (by simp)
     go_wp2_with fail
     clear r0 r1 r2 rf0 rf1 rf2 rlt; clear y0 y1 y2 yf0 yf1 yf2 ylt
     have EF := Lib.hid (SX.sz E.out (g1 := w.heap.size) (by simp) (.bool (ngB x)) (.slice A1 n1 c1) (.int .i64 (k : Int)))
     obtain ⟨r0, r1, r2, _, _, _, _⟩ := SX.ad x A1 n1 c1 k (g1 := w.heap.size) EF (by simp)
     exact bodyPost_ret (v := .agg #[.bool (ngB x), .slice A1 n1 c1, .int .i64 (k : Int)]) (by simp [results, Tryz.results26, go_sem, r0, r1, r2]) rfl ⟨x, k, A1, n1, c1, _, _, _, rfl, SX.got EF (by simp), EF.out.st, EF.out.kp, HO.out⟩
  ·have de : ((e1 : Int) == 0) = false := by rw [beq_eq_false_iff_ne]; omega
   have HO := Lib.hid (I.out.out h0)
   obtain ⟨p0, p1, p2, p3, pf0, pf1, pf2, pf3, plt⟩ := SX.facts E
   obtain ⟨r0, r1, r2, rf0, rf1, rf2, rlt⟩ := SX.az (g1 := w.heap.size) E (by simp)
   obtain ⟨y0, y1, y2, yf0, yf1, yf2, ylt⟩ := SX.ad x A1 n1 c1 k (g1 := g3) E (by simp)
   go_wp2_with fail
   clear p0 p1 p2 p3 pf0 pf1 pf2 pf3 plt
   clear r0 r1 r2 rf0 rf1 rf2 rlt; clear y0 y1 y2 yf0 yf1 yf2 ylt
   have EF := Lib.hid (SX.sz E.out (g1 := w.heap.size) (by simp) (.bool (ngB x)) (.slice A1 n1 c1) (.int .i64 (k : Int)))
   obtain ⟨r0, r1, r2, _, _, _, _⟩ := SX.ad x A1 n1 c1 k (g1 := w.heap.size) EF (by simp)
   exact bodyPost_ret (v := .agg #[.bool (ngB x), .slice A1 n1 c1, .int .i64 (k : Int)]) (by simp [results, Tryz.results26, go_sem, r0, r1, r2]) rfl ⟨x, k, A1, n1, c1, _, _, _, rfl, SX.got EF (by simp), EF.out.st, EF.out.kp, HO.out⟩
theorem quo_yes {A A' : Option Addr} {n c n' c' s t : Nat} {i j : Int} {w : World} (h : Num w w.heap.size A n c i.natAbs) (h' : Num w w.heap.size A' n' c' j.natAbs) (hn : n ≤ 1000) (hn' : n' ≤ 1000) (hs : s ≤ 4010) (ht : t ≤ 4010) (hj : j ≠ 0) (hl : (dg (quoQ i s j t).natAbs).length ≤ 1000) :
  Calls Tryz.prog 12 #[.agg #[.bool (ngB i), .slice A n c, .int .i64 (s : Int)], .agg #[.bool (ngB j), .slice A' n' c', .int .i64 (t : Int)]] w (RetDecE w (quoI i s j t) (quoK i s j t)) := by
 obtain ⟨M, hM⟩ : ∃ M, max s t = M := ⟨_, rfl⟩
 obtain ⟨S, hS⟩ : ∃ S, M + 10 = S := ⟨_, rfl⟩
 have em : max (s : Int) (t : Int) = (M : Int) := by omega
 have eS : (M : Int) + 10 = (S : Int) := by omega
 have hM4 : M ≤ 4010 := by omega
 have HM := Lib.hid hM
 have HS := Lib.hid hS
 have HJ := Lib.hid hj
 have HL := Lib.hid hl
 clear hM hS hj hl
 go_enter Tryz.func12, Tryz.ntmps12
 go_wp2_with fail
 have E := Lib.hid ((((St.start w (l := [(A, n, c, i.natAbs), (A', n', c', j.natAbs)]) (by intro q hq; simp at hq; rcases hq with rfl | rfl; exact h; exact h')).alloc (.cells #[.bool (ngB i), .slice A n c, .int .i64 (s : Int)] 26)).alloc (.cells #[.bool (ngB j), .slice A' n' c', .int .i64 (t : Int)] 26)).lay (g := w.heap.size + 1 + 1) (x0 := .bool false) (x1 := .slice none 0 0) (x2 := .int .i64 0) (t := 26) (by simp))
 generalize hW : World.alloc (World.alloc (World.alloc w _) _) _ = W0 at E ⊢
 clear hW
 refine (refdiv_is (i := i) (j := j) (s := s) (t := t) (S := S) (St.got (A := A) (n := n) (c := c) E (by simp)) (St.got (A := A') (n := n') (c := c') E (by simp)) hn hn' (by omega) (by omega) (by omega) (by omega) HJ.out (z := quoQ i s j t) (by unfold quoQ; rw [HM.out, HS.out])).mono ?_; rintro e w1 ⟨A2, n2, c2, rfl, hnum2, hb2⟩
 have hn2 : n2 ≤ 1000 := by have := hnum2.len; have := HL.out; omega
 replace E := Lib.hid (St.push E.out hb2 hnum2)
 clear hnum2 hb2
 have hlt := (St.az (g := w.heap.size + 1 + 1) E (by simp)).lt
 go_wp2_with fail
 replace E := Lib.hid (St.lay (g := w1.heap.size) (x0 := .bool (ngB (quoQ i s j t))) (x1 := .slice A2 n2 c2) (x2 := .int .i64 (S : Int)) (t := 26) E.out rfl)
 refine (refstrip_is5 (i := quoQ i s j t) (s := S) (L := M) (v := (M : Int)) (St.got (A := A2) (n := n2) (c := c2) E (by simp)) hn2 (by omega) (by omega) (by omega) (M := quoK i s j t) (by unfold quoK; rw [HM.out, HS.out]) (x := quoI i s j t) (by unfold quoI; rw [HM.out, HS.out])).mono ?_; rintro e w2 ⟨A3, n3, c3, rfl, hnum3, hb3⟩
 replace E := Lib.hid (St.push E.out hb3 hnum3)
 clear hnum3 hb3
 obtain ⟨r0, r1, r2, rf0, rf1, rf2, rlt⟩ := St.az (g := w.heap.size + 1 + 1) E (by simp)
 go_wp2_with fail
 clear r0 r1 r2 rf0 rf1 rf2 rlt
 have EF := Lib.hid (St.sz E.out (g := (w.heap.size + 1 + 1)) (by simp) (.bool (ngB (quoI i s j t))) (.slice A3 n3 c3) (.int .i64 (quoK i s j t : Int)))
 obtain ⟨r0, r1, r2, _, _, _, _⟩ := St.ad (quoI i s j t) A3 n3 c3 (quoK i s j t) (g := w.heap.size + 1 + 1) EF (by simp)
 exact bodyPost_ret (v := .tuple #[.agg #[.bool (ngB (quoI i s j t)), .slice A3 n3 c3, .int .i64 (quoK i s j t : Int)], .int .i64 0]) (by simp [results, Tryz.results12, go_sem, r0, r1, r2]) rfl ⟨A3, n3, c3, rfl, St.got EF (by simp), EF.out.bel⟩
theorem quo_no {A A' : Option Addr} {n c n' c' s t : Nat} {i j : Int} {w : World} (h : Num w w.heap.size A n c i.natAbs) (h' : Num w w.heap.size A' n' c' j.natAbs) (hn : n ≤ 1000) (hn' : n' ≤ 1000) (hs : s ≤ 4010) (ht : t ≤ 4010) (hj : j = 0) :
  Calls Tryz.prog 12 #[.agg #[.bool (ngB i), .slice A n c, .int .i64 (s : Int)], .agg #[.bool (ngB j), .slice A' n' c', .int .i64 (t : Int)]] w (RetVal w (.tuple #[.agg #[.bool false, .slice none 0 0, .int .i64 0], .int .i64 4])) := by
 obtain ⟨M, hM⟩ : ∃ M, max s t = M := ⟨_, rfl⟩
 obtain ⟨S, hS⟩ : ∃ S, M + 10 = S := ⟨_, rfl⟩
 have em : max (s : Int) (t : Int) = (M : Int) := by omega
 have eS : (M : Int) + 10 = (S : Int) := by omega
 have hM4 : M ≤ 4010 := by omega
 have HM := Lib.hid hM
 have HS := Lib.hid hS
 have HJ := Lib.hid hj
 clear hM hS hj
 go_enter Tryz.func12, Tryz.ntmps12
 go_wp2_with fail
 have E := Lib.hid ((((St.start w (l := [(A, n, c, i.natAbs), (A', n', c', j.natAbs)]) (by intro q hq; simp at hq; rcases hq with rfl | rfl; exact h; exact h')).alloc (.cells #[.bool (ngB i), .slice A n c, .int .i64 (s : Int)] 26)).alloc (.cells #[.bool (ngB j), .slice A' n' c', .int .i64 (t : Int)] 26)).lay (g := w.heap.size + 1 + 1) (x0 := .bool false) (x1 := .slice none 0 0) (x2 := .int .i64 0) (t := 26) (by simp))
 generalize hW : World.alloc (World.alloc (World.alloc w _) _) _ = W0 at E ⊢
 clear hW
 refine (refdiv_zero (i := i) (j := j) (s := s) (t := t) (S := S) (St.got (A := A) (n := n) (c := c) E (by simp)) (St.got (A := A') (n := n') (c := c') E (by simp)) hn hn' (by omega) (by omega) (by omega) (by omega) HJ.out).mono ?_; rintro e w1 ⟨rfl, hb2⟩
 replace E := Lib.hid (St.step E.out hb2)
 clear hb2
 have hlt := (St.az (g := w.heap.size + 1 + 1) E (by simp)).lt
 obtain ⟨r0, r1, r2, rf0, rf1, rf2, rlt⟩ := St.az (g := w.heap.size + 1 + 1) E (by simp)
 go_wp2_with fail
 clear r0 r1 r2 rf0 rf1 rf2 rlt
 have EF := Lib.hid (St.sz E.out (g := (w.heap.size + 1 + 1)) (by simp) (.bool false) (.slice none 0 0) (.int .i64 0))
 replace EF := Lib.hid (EF.out.alloc (.cells #[.bool false, .slice none 0 0, .int .i64 0] 26))
 obtain ⟨r0, r1, r2, _, _, _, _⟩ := St.az (g := w.heap.size + 1 + 1) EF (by simp)
 exact bodyPost_ret (v := .tuple #[.agg #[.bool false, .slice none 0 0, .int .i64 0], .int .i64 4]) (by simp [results, Tryz.results12, go_sem, r0, r1, r2]) rfl ⟨rfl, EF.out.bel⟩
theorem pro_of {L : List Tk4} {i : Nat} (hL : ∀ t ∈ L.map tok, t.2.size ≤ 30) (hi : i ≤ L.length) (HP : ∀ j, i ≤ j → j ≤ L.length → FacC L j) : ProC L i := by
 intro w g B n c d A hs hr hp hn hd
 have hlen := hr.len
 have hgw := hs.lt
 have HLEN := Lib.hid hlen
 have hll : (L.map tok).length ≤ 200 := by rw [List.length_map]; omega
 have HLL := Lib.hid hll
 have HPI : FacC L i := HP i (Nat.le_refl _) hi
 have E := Lib.hid (fac_start hs hr hp)
 have hin : i ≤ n := by omega
 clear hs hr hlen hll hi
 go_enter Tryz.func48, Tryz.ntmps48
 go_wp2_with fail
 refine (HPI E.out.st E.out.rd hp hn hd).mono ?_; rintro e w9 ⟨x9, k9, A9, n9, c9, b9, f9, e9, rfl, hnum, hst9, hkp9, hout⟩
 have I0 := Lib.hid (ProI.start hL hout)
 replace E := Lib.hid (SX.push (SX.call E.out hkp9 hst9) hnum)
 clear hnum hst9 hkp9 hout
 have hlt9 := (SX.az (g1 := w.heap.size) E (by simp)).lt
 have hgw9 := E.out.st.lt
 go_wp2_with fail
 replace E := Lib.hid (SX.lay (g1 := w9.heap.size) (x0 := .bool (ngB x9)) (x1 := .slice A9 n9 c9) (x2 := .int .i64 (k9 : Int)) (t := 26) E.out rfl)
 have hf9 : n9 ≤ 1000 ∧ k9 ≤ 4010 := by
  have h1 := ProI.fits hL HLL.out hd I0.out
  have h2 := (SX.got (A1 := A9) (n1 := n9) (c1 := c9) (x := x9.natAbs) E (by simp)).len
  omega
 generalize hW : World.alloc w9 _ = W0 at E ⊢
 clear hW
 obtain ⟨g3, hg3⟩ : ∃ g3, w9.heap.size = g3 := ⟨_, rfl⟩
 rw [hg3] at E hlt9 hgw9 ⊢
 clear hg3
 have n1 : g ≠ g3 := by omega
 have n2 : g3 ≠ g := by omega
 have n3 : g ≠ w.heap.size := by omega
 have n4 : w.heap.size ≠ g := by omega
 have n5 : g3 ≠ w.heap.size := by omega
 have n6 : w.heap.size ≠ g3 := by omega
 go_loopw [4] (fun _ wr => ∃ (x : Int) (k : Nat) (A1 : Option Addr) (n1 c1 i1 d1 e1 : Nat), n1 ≤ 1000 ∧ k ≤ 4010 ∧ SX w wr g B A n c L i1 d1 e1 [(A1, n1, c1, x.natAbs)] [(g3, .bool (ngB x), .slice A1 n1 c1, .int .i64 (k : Int)), (w.heap.size, .bool false, .slice none 0 0, .int .i64 0)] ∧ ProI (L.map tok) d i x k i1 d1 e1) (fun _ wr => msr g n wr)
 case atStart => exact ⟨x9, k9, A9, n9, c9, _, _, _, hf9.1, hf9.2, E.out, I0.out⟩
 case round =>
  obtain ⟨x, k, A1, n1, c1, i1, d1, e1, hn1, hk1, hE, hI⟩ := hrel
  replace E := Lib.hid hE
  have S0 := Lib.hid hE.st
  have I := Lib.hid hI
  clear hE hI I0 hf9
  rcases Nat.eq_zero_or_pos e1 with h0 | h0
  ·subst h0
   obtain ⟨hd1, _, hg⟩ := I.out.nought
   obtain rfl := hd1.symm
   have hi1 := (hg.sz HLL.out).2.2
   have HGE := Lib.hid hg.1
   have HG := Lib.hid hg
   clear hg
   cases h42 : isAt (L.map tok) i1 42 with
   | true =>
    obtain ⟨p0, p1, p2, p3, pf0, pf1, pf2, pf3, plt⟩ := SX.facts E
    go_wp2_with fail
    clear p0 p1 p2 p3 pf0 pf1 pf2 pf3 plt
    refine (is13 E.out.st E.out.rd (by have := E.out.pl; have := E.out.st.lt; omega) (by omega) (by omega) (s := ⟨#[42]⟩) rfl h42).mono ?_; rintro e w9 ⟨rfl, hb9⟩
    replace E := Lib.hid (SX.step E.out hb9)
    clear hb9
    go_wp2_with fail
    refine (is13 E.out.st E.out.rd (by have := E.out.pl; have := E.out.st.lt; omega) (by omega) (by omega) (s := ⟨#[42]⟩) rfl h42).mono ?_; rintro e w9 ⟨rfl, hb9⟩
    replace E := Lib.hid (SX.step E.out hb9)
    clear hb9
    have hin2 : i1 < n := by have h := isAt_lt h42; rw [List.length_map] at h; have := HLEN.out; omega
    obtain ⟨i2, hi2⟩ : ∃ i2, i1 + 1 = i2 := ⟨_, rfl⟩
    have ei : (i1 : Int) + 1 = (i2 : Int) := by omega
    have I2 := Lib.hid hi2
    have HPJ : FacC L i2 := HP i2 (by have := HGE.out; omega) (by have := HLEN.out; omega)
    clear hi2
    obtain ⟨p0, p1, p2, p3, pf0, pf1, pf2, pf3, plt⟩ := SX.facts E
    go_wp2_with fail
    clear p0 p1 p2 p3 pf0 pf1 pf2 pf3 plt
    replace E := Lib.hid (SX.set1 E.out i2)
    refine (HPJ E.out.st E.out.rd hp hn hd).mono ?_; rintro e w9 ⟨y9, k9, A9, n9, c9, b9, f9, e9, rfl, hnum, hst9, hkp9, hout⟩
    rw [← I2.out] at hout
    have HOUT := Lib.hid hout
    have ML := Lib.hid (fac_later hout hin2)
    have hf9 : n9 ≤ 1000 ∧ k9 ≤ 4010 := by
     have h1 := out_len HLL.out (fun _ _ _ h => ⟨_, FAC_grt hL h⟩) (by omega) hout
     have h2 := hnum.len
     omega
    replace E := Lib.hid (SX.push (SX.call E.out hkp9 hst9) hnum)
    clear hnum hst9 hkp9 hout
    have hlt10 := (SX.ad x A1 n1 c1 k (g1 := g3) E (by simp)).lt
    have hgw9 := E.out.st.lt
    rcases Nat.eq_zero_or_pos e9 with h9 | h9
    ·subst h9
     obtain ⟨hfd, hFA⟩ := fac_good HOUT.out
     obtain rfl := hfd.symm
     have HFA := Lib.hid hFA
     clear hFA HOUT
     obtain ⟨p0, p1, p2, p3, pf0, pf1, pf2, pf3, plt⟩ := SX.facts E
     obtain ⟨r0, r1, r2, rf0, rf1, rf2, rlt⟩ := SX.ad x A1 n1 c1 k (g1 := g3) E (by simp)
     go_wp2_with fail
     clear r0 r1 r2 rf0 rf1 rf2 rlt
     clear p0 p1 p2 p3 pf0 pf1 pf2 pf3 plt
     replace E := Lib.hid (SX.lay (g1 := w9.heap.size) (x0 := .bool (ngB y9)) (x1 := .slice A9 n9 c9) (x2 := .int .i64 (k9 : Int)) (t := 26) E.out rfl)
     refine (refmul_is5 (i := x) (j := y9) (s := k) (t := k9) (SX.got (A1 := A1) (n1 := n1) (c1 := c1) E (by simp)) (SX.got (A1 := A9) (n1 := n9) (c1 := c9) E (by simp)) (by omega) (by omega) (by omega) (by omega) rfl rfl).mono ?_; rintro e w10 ⟨A2, n2, c2, rfl, hnum2, hb10⟩
     have J := Lib.hid (ProI.mul hL I.out h42 HFA.out)
     have hf2 : n2 ≤ 1000 ∧ k + k9 ≤ 4010 := by
      have h1 := ProI.fits hL HLL.out hd J.out
      have h2 := hnum2.len
      omega
     replace E := Lib.hid (SX.push (SX.step E.out hb10) hnum2)
     clear hnum2 hb10
     obtain ⟨r0, r1, r2, rf0, rf1, rf2, rlt⟩ := SX.ad x A1 n1 c1 k (g1 := g3) E (by simp)
     go_wp2_with fail
     clear r0 r1 r2 rf0 rf1 rf2 rlt
     replace E := Lib.hid (SX.sub (l' := [(A2, n2, c2, (x * y9).natAbs)]) (bs' := [(g3, .bool (ngB x), .slice A1 n1 c1, .int .i64 (k : Int)), (w.heap.size, .bool false, .slice none 0 0, .int .i64 0)]) E.out (by simp) (by simp))
     replace E := Lib.hid (SX.store E.out (g1 := g3) (x0 := .bool (ngB x)) (x1 := .slice A1 n1 c1) (x2 := .int .i64 (k : Int)) (by simp) (noLimb_bool _) (noLimb_slice _ _ _) (noLimb_int _) [(w.heap.size, .bool false, .slice none 0 0, .int .i64 0)] (fun q hq => by simp at hq; subst hq; exact ⟨by simp, n5⟩) (.bool (ngB (x * y9))) (.slice A2 n2 c2) (.int .i64 ((k + k9 : Nat) : Int)))
     go_roundw
     case rel => exact ⟨x * y9, k + k9, A2, n2, c2, _, _, _, hf2.1, hf2.2, E.out, J.out⟩
     case measure =>
      refine Nat.lt_of_le_of_lt (Nat.le_of_eq (msr_is E.out.st)) ?_
      rw [msr_is S0.out]
      exact ML.out
    ·have de : ((e9 : Int) != 0) = true := by rw [bne_iff_ne]; omega
     have J := Lib.hid (ProI.err HLL.out hd I.out (.inl h42) HOUT.out h9)
     obtain ⟨p0, p1, p2, p3, pf0, pf1, pf2, pf3, plt⟩ := SX.facts E
     go_wp2_with fail
     clear p0 p1 p2 p3 pf0 pf1 pf2 pf3 plt
     replace E := Lib.hid (SX.lay (g1 := w9.heap.size) (x0 := .bool (ngB y9)) (x1 := .slice A9 n9 c9) (x2 := .int .i64 (k9 : Int)) (t := 26) E.out rfl)
     replace E := Lib.hid (SX.sub (l' := [(A1, n1, c1, x.natAbs)]) (bs' := [(g3, .bool (ngB x), .slice A1 n1 c1, .int .i64 (k : Int)), (w.heap.size, .bool false, .slice none 0 0, .int .i64 0)]) E.out (by simp) (by simp))
     go_roundw
     case rel => exact ⟨x, k, A1, n1, c1, _, _, _, hn1, hk1, E.out, J.out⟩
     case measure =>
      refine Nat.lt_of_le_of_lt (Nat.le_of_eq (msr_is E.out.st)) ?_
      rw [msr_is S0.out]
      exact ML.out
   | false =>
    cases h47 : isAt (L.map tok) i1 47 with
    | true =>
     obtain ⟨p0, p1, p2, p3, pf0, pf1, pf2, pf3, plt⟩ := SX.facts E
     go_wp2_with fail
     clear p0 p1 p2 p3 pf0 pf1 pf2 pf3 plt
     refine (is13 E.out.st E.out.rd (by have := E.out.pl; have := E.out.st.lt; omega) (by omega) (by omega) (s := ⟨#[42]⟩) rfl h42).mono ?_; rintro e w9 ⟨rfl, hb9⟩
     replace E := Lib.hid (SX.step E.out hb9)
     clear hb9
     go_wp2_with fail
     refine (is13 E.out.st E.out.rd (by have := E.out.pl; have := E.out.st.lt; omega) (by omega) (by omega) (s := ⟨#[47]⟩) rfl h47).mono ?_; rintro e w9 ⟨rfl, hb9⟩
     replace E := Lib.hid (SX.step E.out hb9)
     clear hb9
     go_wp2_with fail
     refine (is13 E.out.st E.out.rd (by have := E.out.pl; have := E.out.st.lt; omega) (by omega) (by omega) (s := ⟨#[42]⟩) rfl h42).mono ?_; rintro e w9 ⟨rfl, hb9⟩
     replace E := Lib.hid (SX.step E.out hb9)
     clear hb9
     have hin2 : i1 < n := by have h := isAt_lt h47; rw [List.length_map] at h; have := HLEN.out; omega
     obtain ⟨i2, hi2⟩ : ∃ i2, i1 + 1 = i2 := ⟨_, rfl⟩
     have ei : (i1 : Int) + 1 = (i2 : Int) := by omega
     have I2 := Lib.hid hi2
     have HPJ : FacC L i2 := HP i2 (by have := HGE.out; omega) (by have := HLEN.out; omega)
     clear hi2
     obtain ⟨p0, p1, p2, p3, pf0, pf1, pf2, pf3, plt⟩ := SX.facts E
     go_wp2_with fail
     clear p0 p1 p2 p3 pf0 pf1 pf2 pf3 plt
     replace E := Lib.hid (SX.set1 E.out i2)
     refine (HPJ E.out.st E.out.rd hp hn hd).mono ?_; rintro e w9 ⟨y9, k9, A9, n9, c9, b9, f9, e9, rfl, hnum, hst9, hkp9, hout⟩
     rw [← I2.out] at hout
     have HOUT := Lib.hid hout
     have ML := Lib.hid (fac_later hout hin2)
     have hf9 : n9 ≤ 1000 ∧ k9 ≤ 4010 := by
      have h1 := out_len HLL.out (fun _ _ _ h => ⟨_, FAC_grt hL h⟩) (by omega) hout
      have h2 := hnum.len
      omega
     replace E := Lib.hid (SX.push (SX.call E.out hkp9 hst9) hnum)
     clear hnum hst9 hkp9 hout
     have hlt10 := (SX.ad x A1 n1 c1 k (g1 := g3) E (by simp)).lt
     have hgw9 := E.out.st.lt
     rcases Nat.eq_zero_or_pos e9 with h9 | h9
     ·subst h9
      obtain ⟨hfd, hFA⟩ := fac_good HOUT.out
      obtain rfl := hfd.symm
      have HFA := Lib.hid hFA
      clear hFA HOUT
      obtain ⟨p0, p1, p2, p3, pf0, pf1, pf2, pf3, plt⟩ := SX.facts E
      obtain ⟨r0, r1, r2, rf0, rf1, rf2, rlt⟩ := SX.ad x A1 n1 c1 k (g1 := g3) E (by simp)
      go_wp2_with fail
      clear r0 r1 r2 rf0 rf1 rf2 rlt
      clear p0 p1 p2 p3 pf0 pf1 pf2 pf3 plt
      replace E := Lib.hid (SX.lay (g1 := w9.heap.size) (x0 := .bool (ngB y9)) (x1 := .slice A9 n9 c9) (x2 := .int .i64 (k9 : Int)) (t := 26) E.out rfl)
      rcases Int.decEq y9 0 with hy | hy
      ·have HQL : Hid ((dg (quoQ x k y9 k9).natAbs).length ≤ 1000) := quo_len hL HLL.out HG.out HFA.out hy
       refine (quo_yes (i := x) (j := y9) (s := k) (t := k9) (SX.got (A1 := A1) (n1 := n1) (c1 := c1) E (by simp)) (SX.got (A1 := A9) (n1 := n9) (c1 := c9) E (by simp)) hn1 hf9.1 hk1 hf9.2 hy HQL.out).mono ?_; rintro e w10 ⟨A2, n2, c2, rfl, hnum2, hb10⟩
       have J := Lib.hid (ProI.quo hL I.out h42 h47 HFA.out hy)
       have hf2 : n2 ≤ 1000 ∧ quoK x k y9 k9 ≤ 4010 := by
        have h1 := ProI.fits hL HLL.out hd J.out
        have h2 := hnum2.len
        omega
       replace E := Lib.hid (SX.push (SX.step E.out hb10) hnum2)
       clear hnum2 hb10
       have hlt11 := (SX.ad x A1 n1 c1 k (g1 := g3) E (by simp)).lt
       obtain ⟨r0, r1, r2, rf0, rf1, rf2, rlt⟩ := SX.ad x A1 n1 c1 k (g1 := g3) E (by simp)
       go_wp2_with fail
       clear r0 r1 r2 rf0 rf1 rf2 rlt
       replace E := Lib.hid (SX.sub (l' := [(A2, n2, c2, (quoI x k y9 k9).natAbs)]) (bs' := [(g3, .bool (ngB x), .slice A1 n1 c1, .int .i64 (k : Int)), (w.heap.size, .bool false, .slice none 0 0, .int .i64 0)]) E.out (by simp) (by simp))
       replace E := Lib.hid (SX.store E.out (g1 := g3) (x0 := .bool (ngB x)) (x1 := .slice A1 n1 c1) (x2 := .int .i64 (k : Int)) (by simp) (noLimb_bool _) (noLimb_slice _ _ _) (noLimb_int _) [(w.heap.size, .bool false, .slice none 0 0, .int .i64 0)] (fun q hq => by simp at hq; subst hq; exact ⟨by simp, n5⟩) (.bool (ngB (quoI x k y9 k9))) (.slice A2 n2 c2) (.int .i64 (quoK x k y9 k9 : Int)))
       replace E := Lib.hid (SX.step E.out ((Below.refl _ _).alloc (Nat.le_refl _) (.cells #[.bool (ngB (quoI x k y9 k9)), .slice A2 n2 c2, .int .i64 (quoK x k y9 k9 : Int)] 26)))
       go_roundw
       case rel => exact ⟨quoI x k y9 k9, quoK x k y9 k9, A2, n2, c2, _, _, _, hf2.1, hf2.2, E.out, J.out⟩
       case measure =>
        refine Nat.lt_of_le_of_lt (Nat.le_of_eq (msr_is E.out.st)) ?_
        rw [msr_is S0.out]
        exact ML.out
      ·have HZ : Hid (PRO (L.map tok) d i = .inl (4, i1)) := by show _ = _; rw [I.out.nought.2.1, PROL_zero h42 h47 HFA.out hy]
       refine (quo_no (i := x) (j := y9) (s := k) (t := k9) (SX.got (A1 := A1) (n1 := n1) (c1 := c1) E (by simp)) (SX.got (A1 := A9) (n1 := n9) (c1 := c9) E (by simp)) hn1 hf9.1 hk1 hf9.2 hy).mono ?_; rintro e w10 ⟨rfl, hb10⟩
       replace E := Lib.hid (SX.step E.out hb10)
       clear hb10
       have hgw10 := E.out.st.lt
       obtain ⟨p0, p1, p2, p3, pf0, pf1, pf2, pf3, plt⟩ := SX.facts E
       go_wp2_with fail
       clear p0 p1 p2 p3 pf0 pf1 pf2 pf3 plt
       replace E := Lib.hid (SX.set1 E.out i1)
       replace E := Lib.hid (SX.step E.out ((Below.refl _ _).alloc (Nat.le_refl _) (.cells #[.bool false, .slice none 0 0, .int .i64 0] 26)))
       refine (fail13 E.out.st (z := 4) (by omega) 4 (by rfl)).mono ?_; rintro e w11 ⟨rfl, hst, hkp⟩
       replace E := Lib.hid (SX.call E.out hkp hst); clear hst hkp
       obtain ⟨r0, r1, r2, rf0, rf1, rf2, rlt⟩ := SX.az (g1 := w.heap.size) E (by simp)
       go_wp2_with fail
       clear r0 r1 r2 rf0 rf1 rf2 rlt
       have EF := Lib.hid (SX.sz E.out (g1 := w.heap.size) (by simp) (.bool false) (.slice none 0 0) (.int .i64 0))
       obtain ⟨r0, r1, r2, _, _, _, _⟩ := SX.az (g1 := w.heap.size) EF (by simp)
       exact bodyPost_ret (v := .agg #[.bool false, .slice none 0 0, .int .i64 0]) (by simp [results, Tryz.results48, go_sem, r0, r1, r2]) rfl ⟨0, 0, none, 0, 0, _, _, _, rfl, num_zero _ _, EF.out.st, EF.out.kp, by rw [HZ.out]; exact out_none (by omega) hd⟩
     ·have de : ((e9 : Int) != 0) = true := by rw [bne_iff_ne]; omega
      have J := Lib.hid (ProI.err HLL.out hd I.out (.inr h47) HOUT.out h9)
      obtain ⟨p0, p1, p2, p3, pf0, pf1, pf2, pf3, plt⟩ := SX.facts E
      go_wp2_with fail
      clear p0 p1 p2 p3 pf0 pf1 pf2 pf3 plt
      replace E := Lib.hid (SX.lay (g1 := w9.heap.size) (x0 := .bool (ngB y9)) (x1 := .slice A9 n9 c9) (x2 := .int .i64 (k9 : Int)) (t := 26) E.out rfl)
      replace E := Lib.hid (SX.sub (l' := [(A1, n1, c1, x.natAbs)]) (bs' := [(g3, .bool (ngB x), .slice A1 n1 c1, .int .i64 (k : Int)), (w.heap.size, .bool false, .slice none 0 0, .int .i64 0)]) E.out (by simp) (by simp))
      go_roundw
      case rel => exact ⟨x, k, A1, n1, c1, _, _, _, hn1, hk1, E.out, J.out⟩
      case measure =>
       refine Nat.lt_of_le_of_lt (Nat.le_of_eq (msr_is E.out.st)) ?_
       rw [msr_is S0.out]
       exact ML.out
    | false =>
     obtain ⟨p0, p1, p2, p3, pf0, pf1, pf2, pf3, plt⟩ := SX.facts E
     go_wp2_with fail
     clear p0 p1 p2 p3 pf0 pf1 pf2 pf3 plt
     refine (is13 E.out.st E.out.rd (by have := E.out.pl; have := E.out.st.lt; omega) (by omega) (by omega) (s := ⟨#[42]⟩) rfl h42).mono ?_; rintro e w9 ⟨rfl, hb9⟩
     replace E := Lib.hid (SX.step E.out hb9)
     clear hb9
     go_wp2_with fail
     refine (is13 E.out.st E.out.rd (by have := E.out.pl; have := E.out.st.lt; omega) (by omega) (by omega) (s := ⟨#[47]⟩) rfl h47).mono ?_; rintro e w9 ⟨rfl, hb9⟩
     replace E := Lib.hid (SX.step E.out hb9)
     clear hb9
     have HO := Lib.hid (I.out.done h42 h47)
     obtain ⟨r0, r1, r2, rf0, rf1, rf2, rlt⟩ := SX.az (g1 := w.heap.size) E (by simp)
     obtain ⟨y0, y1, y2, yf0, yf1, yf2, ylt⟩ := SX.ad x A1 n1 c1 k (g1 := g3) E (by simp)
     go_wp2_with fail
     clear r0 r1 r2 rf0 rf1 rf2 rlt; clear y0 y1 y2 yf0 yf1 yf2 ylt
     have EF := Lib.hid (SX.sz E.out (g1 := w.heap.size) (by simp) (.bool (ngB x)) (.slice A1 n1 c1) (.int .i64 (k : Int)))
     obtain ⟨r0, r1, r2, _, _, _, _⟩ := SX.ad x A1 n1 c1 k (g1 := w.heap.size) EF (by simp)
     exact bodyPost_ret (v := .agg #[.bool (ngB x), .slice A1 n1 c1, .int .i64 (k : Int)]) (by simp [results, Tryz.results48, go_sem, r0, r1, r2]) rfl ⟨x, k, A1, n1, c1, _, _, _, rfl, SX.got EF (by simp), EF.out.st, EF.out.kp, HO.out⟩
  ·have de : ((e1 : Int) == 0) = false := by rw [beq_eq_false_iff_ne]; omega
   have HO := Lib.hid (I.out.out h0)
   obtain ⟨p0, p1, p2, p3, pf0, pf1, pf2, pf3, plt⟩ := SX.facts E
   obtain ⟨r0, r1, r2, rf0, rf1, rf2, rlt⟩ := SX.az (g1 := w.heap.size) E (by simp)
   obtain ⟨y0, y1, y2, yf0, yf1, yf2, ylt⟩ := SX.ad x A1 n1 c1 k (g1 := g3) E (by simp)
   go_wp2_with fail
   clear p0 p1 p2 p3 pf0 pf1 pf2 pf3 plt
   clear r0 r1 r2 rf0 rf1 rf2 rlt; clear y0 y1 y2 yf0 yf1 yf2 ylt
   have EF := Lib.hid (SX.sz E.out (g1 := w.heap.size) (by simp) (.bool (ngB x)) (.slice A1 n1 c1) (.int .i64 (k : Int)))
   obtain ⟨r0, r1, r2, _, _, _, _⟩ := SX.ad x A1 n1 c1 k (g1 := w.heap.size) EF (by simp)
   exact bodyPost_ret (v := .agg #[.bool (ngB x), .slice A1 n1 c1, .int .i64 (k : Int)]) (by simp [results, Tryz.results48, go_sem, r0, r1, r2]) rfl ⟨x, k, A1, n1, c1, _, _, _, rfl, SX.got EF (by simp), EF.out.st, EF.out.kp, HO.out⟩
theorem all13 {L : List Tk4} (hL : ∀ t ∈ L.map tok, t.2.size ≤ 30) : ∀ m i, i ≤ L.length → L.length - i < m → FacC L i ∧ ProC L i ∧ SumC L i := by
 intro m
 induction m with
 | zero => intro i _ h; omega
 | succ m ih =>
  intro i hi hm
  have later : ∀ j, i < j → j ≤ L.length → FacC L j ∧ ProC L j ∧ SumC L j := fun j h1 h2 => ih j h2 (by omega)
  have F : FacC L i := factor_of hL (fun h => (later (i + 1) (by omega) (by omega)).2.2) (fun h => (later (i + 1) (by omega) (by omega)).1) hi
  have P : ProC L i := pro_of hL hi fun j h1 h2 => by
   rcases Nat.eq_or_lt_of_le h1 with rfl | h3
   ·exact F
   ·exact (later j h3 h2).1
  have S : SumC L i := sum_of hL hi fun j h1 h2 => by
   rcases Nat.eq_or_lt_of_le h1 with rfl | h3
   ·exact P
   ·exact (later j h3 h2).2.1
  exact ⟨F, P, S⟩
theorem sum13 {L : List Tk4} (hL : ∀ t ∈ L.map tok, t.2.size ≤ 30) {i : Nat} (hi : i ≤ L.length) : SumC L i := (all13 hL (L.length + 1) i hi (by omega)).2.2
def evl (L : List Tok) (a : Int) : Int × Nat × Int × Nat :=
 if a < 0 ∨ (L.length : Int) < a then (0, 0, a, 1)
 else match SUM L 0 a.toNat with
  | .inl (z, b) => (0, 0, (b : Int), z)
  | .inr (x, k, b) => (x, k, (b : Int), 0)
def RetE (w : World) (r : Int × Nat × Int × Nat) (e : Ending) (w' : World) : Prop :=
 ∃ (A : Option Addr) (n c : Nat), e = .returned (.tuple #[.agg #[.bool (ngB r.1), .slice A n c, .int .i64 (r.2.1 : Int)], .int .i64 r.2.2.1, .int .i64 (r.2.2.2 : Int)]) ∧ Num w' w'.heap.size A n c r.1.natAbs ∧ Below w.heap.size w w'
theorem StB.newAt (v : World) {g n c a d e : Nat} {A : Option Addr} (h : g = v.heap.size) : StB (v.alloc (.cells #[.slice A n c, .int .i64 (a : Int), .int .i64 (d : Int), .int .i64 (e : Int)] 57)) g A n c a d e := by
 subst h; exact heap_alloc_new v _
theorem eval_bad {w : World} {B n c : Nat} {A : Option Addr} {L : List Tk4} (hr : RdK w B A n c L) (hn : n ≤ 200) {a : Int} (ha : a < 0 ∨ (n : Int) < a) :
  Calls Tryz.prog 10 #[.slice A n c, .int .i64 a] w (RetE w (0, 0, a, 1)) := by
 have E := Lib.hid ((St.start w (l := []) (by intro q hq; cases hq)).lay (g := w.heap.size) (x0 := .bool false) (x1 := .slice none 0 0) (x2 := .int .i64 0) (t := 26) rfl)
 clear hr
 by_cases h : a < 0
 ·have d1 : decide (a < 0) = true := decide_eq_true h
  go_enter Tryz.func10, Tryz.ntmps10
  go_wp2_with fail
  obtain ⟨r0, r1, r2, _, _, _, _⟩ := St.az (g := w.heap.size) E (by simp)
  exact bodyPost_ret (v := .tuple #[.agg #[.bool false, .slice none 0 0, .int .i64 0], .int .i64 a, .int .i64 1]) (by simp [results, Tryz.results10, go_sem, r0, r1, r2]) rfl ⟨none, 0, 0, rfl, num_zero _ _, E.out.bel⟩
 ·have d1 : decide (a < 0) = false := decide_eq_false (by omega)
  have d2 : decide ((n : Int) < a) = true := decide_eq_true (by omega)
  go_enter Tryz.func10, Tryz.ntmps10
  go_wp2_with fail
  obtain ⟨r0, r1, r2, _, _, _, _⟩ := St.az (g := w.heap.size) E (by simp)
  exact bodyPost_ret (v := .tuple #[.agg #[.bool false, .slice none 0 0, .int .i64 0], .int .i64 a, .int .i64 1]) (by simp [results, Tryz.results10, go_sem, r0, r1, r2]) rfl ⟨none, 0, 0, rfl, num_zero _ _, E.out.bel⟩
theorem eval_ok {w : World} {B n c i : Nat} {A : Option Addr} {L : List Tk4} (hr : RdK w B A n c L) (hB : B ≤ w.heap.size) (hn : n ≤ 200) (hL : ∀ t ∈ L.map tok, t.2.size ≤ 30) (hi : i ≤ n) :
  Calls Tryz.prog 10 #[.slice A n c, .int .i64 (i : Int)] w (RetE w (evl (L.map tok) (i : Int))) := by
 have hlen := hr.len
 have HSUM : SumC L i := sum13 hL (by omega)
 have d1 : decide ((i : Int) < 0) = false := decide_eq_false (by omega)
 have d2 : decide ((n : Int) < (i : Int)) = false := decide_eq_false (by omega)
 have d3 : decide (n < i) = false := decide_eq_false (by omega)
 have HV : Hid (evl (L.map tok) (i : Int) = match SUM (L.map tok) 0 i with | .inl (z, b) => (0, 0, (b : Int), z) | .inr (x, k, b) => (x, k, (b : Int), 0)) := by
  show _ = _
  unfold evl
  rw [if_neg (by rw [List.length_map]; omega)]
  rfl
 have E0 := (St.start w (l := []) (by intro q hq; cases hq)).lay (g := w.heap.size) (x0 := .bool false) (x1 := .slice none 0 0) (x2 := .int .i64 0) (t := 26) rfl
 have hb1 : Below w.heap.size w ((w.alloc (.cells #[.bool false, .slice none 0 0, .int .i64 0] 26)).alloc (.cells #[.slice A n c, .int .i64 (i : Int), .int .i64 0, .int .i64 0] 57)) := ((Below.refl _ _).alloc (Nat.le_refl _) _).alloc (by simp) _
 have HR := Lib.hid (hr.on hB hb1)
 have HE := Lib.hid (E0.alloc (.cells #[.slice A n c, .int .i64 (i : Int), .int .i64 0, .int .i64 0] 57))
 have HS : Hid (StB _ (w.heap.size + 1) A n c i 0 0) := StB.newAt (w.alloc (.cells #[.bool false, .slice none 0 0, .int .i64 0] 26)) (by simp)
 clear hr hlen hb1 E0
 go_enter Tryz.func10, Tryz.ntmps10
 go_wp2_with fail
 generalize hW : World.alloc (World.alloc w _) _ = W1 at HR HE HS ⊢
 clear hW
 refine (HSUM HS.out HR.out (by omega) hn (by omega)).mono ?_; rintro e w9 ⟨x9, k9, A9, n9, c9, b9, f9, e9, rfl, hnum, hst9, hkp9, hout⟩
 have hbel : Below w.heap.size w w9 := HE.out.bel.trans (hkp9.below (Nat.le_succ _) (fun g e => by cases e) HE.out.bel.size)
 have hbox : Box w9 w.heap.size (.bool false) (.slice none 0 0) (.int .i64 0) := (St.at_ HE (by simp)).kp hkp9 (by omega)
 have E : Hid (St w w9 [(A9, n9, c9, x9.natAbs)] [(w.heap.size, .bool false, .slice none 0 0, .int .i64 0)]) := ⟨hbel, fun q hq => by simp at hq; subst hq; exact hnum, fun q hq => by simp at hq; subst hq; exact ⟨hbox, Nat.le_refl _⟩⟩
 have S9 := Lib.hid hst9
 have hlt9 : w.heap.size < w9.heap.size := hbox.lt
 have hgl9 := hst9.lt
 have HO := Lib.hid hout
 clear hnum hst9 hkp9 hbel hbox hout HR HE HS
 obtain ⟨g, hg⟩ : ∃ g, w.heap.size + 1 = g := ⟨_, rfl⟩
 have n1 : g ≠ w.heap.size := by omega
 have n2 : w.heap.size ≠ g := by omega
 rw [hg] at S9 hgl9 ⊢
 clear hg
 cases hS : SUM (L.map tok) 0 i with
 | inl r =>
  obtain ⟨z, b⟩ := r
  have H2 := HO.out
  rw [hS] at H2
  obtain ⟨hz, rfl, rfl, -⟩ := H2
  have HV2 : Hid (evl (L.map tok) (i : Int) = (0, 0, (b9 : Int), e9)) := by show _ = _; rw [HV.out, hS]
  have dz : ((e9 : Int) != 0) = true := by rw [bne_iff_ne]; omega
  clear hS HV HO
  obtain ⟨p0, p1, p2, p3, pf0, pf1, pf2, pf3, plt⟩ := S9.out.bx
  obtain ⟨r0, r1, r2, rf0, rf1, rf2, rlt⟩ := St.az (g := w.heap.size) E (by simp)
  go_wp2_with fail
  clear p0 p1 p2 p3 pf0 pf1 pf2 pf3 plt r0 r1 r2 rf0 rf1 rf2 rlt
  replace S9 := Lib.hid (S9.out.on ((Below.refl _ w9).alloc (Nat.le_refl _) (.cells #[.bool (ngB x9), .slice A9 n9 c9, .int .i64 (k9 : Int)] 26)))
  replace E := Lib.hid (E.out.lay (g := w9.heap.size) (x0 := .bool (ngB x9)) (x1 := .slice A9 n9 c9) (x2 := .int .i64 (k9 : Int)) (t := 26) rfl)
  generalize hV : World.alloc w9 _ = V at E S9 ⊢
  clear hV
  obtain ⟨p0, p1, p2, p3, pf0, pf1, pf2, pf3, plt⟩ := S9.out.bx
  obtain ⟨r0, r1, r2, rf0, rf1, rf2, rlt⟩ := St.az (g := w.heap.size) E (by simp)
  go_region
  go_wp2_with fail
  clear p0 p1 p2 p3 pf0 pf1 pf2 pf3 plt r0 r1 r2 rf0 rf1 rf2 rlt
  have EF := Lib.hid (St.sz E.out (g := w.heap.size) (by simp) (.bool false) (.slice none 0 0) (.int .i64 0))
  replace EF := Lib.hid EF.out.drew
  obtain ⟨r0, r1, r2, _, _, _, _⟩ := St.az (g := w.heap.size) EF (by simp)
  exact bodyPost_ret (v := .tuple #[.agg #[.bool false, .slice none 0 0, .int .i64 0], .int .i64 (b9 : Int), .int .i64 (e9 : Int)]) (by simp [results, Tryz.results10, go_sem, r0, r1, r2]) rfl (by rw [HV2.out]; exact ⟨none, 0, 0, rfl, num_zero _ _, EF.out.bel⟩)
 | inr r =>
  obtain ⟨j, s, b⟩ := r
  have H2 := HO.out
  rw [hS] at H2
  obtain ⟨rfl, rfl, rfl, rfl, rfl⟩ := H2
  have HV2 : Hid (evl (L.map tok) (i : Int) = (x9, k9, (b9 : Int), 0)) := by show _ = _; rw [HV.out, hS]
  clear hS HV HO
  obtain ⟨p0, p1, p2, p3, pf0, pf1, pf2, pf3, plt⟩ := S9.out.bx
  obtain ⟨r0, r1, r2, rf0, rf1, rf2, rlt⟩ := St.az (g := w.heap.size) E (by simp)
  go_wp2_with fail
  clear p0 p1 p2 p3 pf0 pf1 pf2 pf3 plt r0 r1 r2 rf0 rf1 rf2 rlt
  replace S9 := Lib.hid (S9.out.on ((Below.refl _ w9).alloc (Nat.le_refl _) (.cells #[.bool (ngB x9), .slice A9 n9 c9, .int .i64 (k9 : Int)] 26)))
  replace E := Lib.hid (E.out.lay (g := w9.heap.size) (x0 := .bool (ngB x9)) (x1 := .slice A9 n9 c9) (x2 := .int .i64 (k9 : Int)) (t := 26) rfl)
  generalize hV : World.alloc w9 _ = V at E S9 ⊢
  clear hV
  obtain ⟨p0, p1, p2, p3, pf0, pf1, pf2, pf3, plt⟩ := S9.out.bx
  obtain ⟨r0, r1, r2, rf0, rf1, rf2, rlt⟩ := St.az (g := w.heap.size) E (by simp)
  obtain ⟨y0, y1, y2, yf0, yf1, yf2, ylt⟩ := St.ad x9 A9 n9 c9 k9 (g := w9.heap.size) E (by simp)
  go_region
  go_wp2_with fail
  clear p0 p1 p2 p3 pf0 pf1 pf2 pf3 plt r0 r1 r2 rf0 rf1 rf2 rlt y0 y1 y2 yf0 yf1 yf2 ylt
  have EF := Lib.hid (St.sz E.out (g := w.heap.size) (by simp) (.bool (ngB x9)) (.slice A9 n9 c9) (.int .i64 (k9 : Int)))
  replace EF := Lib.hid EF.out.drew
  obtain ⟨r0, r1, r2, _, _, _, _⟩ := St.ad x9 A9 n9 c9 k9 (g := w.heap.size) EF (by simp)
  exact bodyPost_ret (v := .tuple #[.agg #[.bool (ngB x9), .slice A9 n9 c9, .int .i64 (k9 : Int)], .int .i64 (b9 : Int), .int .i64 0]) (by simp [results, Tryz.results10, go_sem, r0, r1, r2]) rfl (by rw [HV2.out]; exact ⟨A9, n9, c9, rfl, St.got EF (by simp), EF.out.bel⟩)
theorem eval13 {w : World} {B n c : Nat} {A : Option Addr} {L : List Tk4} (hr : RdK w B A n c L) (hB : B ≤ w.heap.size) (hn : n ≤ 200) (hL : ∀ t ∈ L.map tok, t.2.size ≤ 30) (a : Int) :
  Calls Tryz.prog 10 #[.slice A n c, .int .i64 a] w (RetE w (evl (L.map tok) a)) := by
 have hlen := hr.len
 by_cases h : a < 0 ∨ (n : Int) < a
 ·have e : evl (L.map tok) a = (0, 0, a, 1) := by unfold evl; rw [if_pos (by rw [List.length_map, ← hlen]; exact h)]
  rw [e]; exact eval_bad hr hn h
 ·obtain ⟨i, rfl⟩ : ∃ i : Nat, (i : Int) = a := ⟨a.toNat, by omega⟩
  exact eval_ok hr hB hn hL (by omega)
def smallB (L : List Tok) : Bool := L.all (fun t => decide (t.2.size ≤ 30)) && decide (L.length ≤ 200)
theorem smallB_true {L : List Tok} (h : smallB L = true) : (∀ t ∈ L, t.2.size ≤ 30) ∧ L.length ≤ 200 := by
 unfold smallB at h
 rw [Bool.and_eq_true, List.all_eq_true, decide_eq_true_iff] at h
 exact ⟨fun t ht => of_decide_eq_true (h.1 t ht), h.2⟩
theorem small13 {w : World} {B n c : Nat} {A : Option Addr} {L : List Tk4} (hr : RdK w B A n c L) (hB : B ≤ w.heap.size) {b : Bool} (hb : smallB (L.map tok) = b) :
  Calls Tryz.prog 6 #[.slice A n c] w (RetVal w (.bool b)) := by
 have hc := hr.cap
 have hm := hr.room
 unfold maxLen at hm
 have HR := Lib.hid hr
 have HB := Lib.hid hb
 have HLEN := Lib.hid hr.len
 clear hr hb
 go_enter Tryz.func6, Tryz.ntmps6
 go_wp2_with fail
 go_loopw [7] (fun iv wr => ∃ i : Nat, iv = .int .i64 i ∧ i ≤ n ∧ ((L.map tok).take i).all (fun t => decide (t.2.size ≤ 30)) = true ∧ Below w.heap.size w wr) (fun iv _ => n - (intOf iv).toNat)
 case atStart => exact ⟨0, rfl, Nat.zero_le _, rfl, Below.refl _ _⟩
 case round =>
  obtain ⟨i, rfl, hi, hall, hbel⟩ := hrel
  have HBL := Lib.hid hbel
  have ALL := Lib.hid hall
  have HRW := Lib.hid (HR.out.on hB hbel)
  clear hbel hall
  rcases Nat.lt_or_ge i n with h | h
  ·obtain ⟨t, ht⟩ : ∃ t, L[i]? = some t := ⟨_, List.getElem?_eq_getElem (by have := HLEN.out; omega)⟩
   obtain ⟨q, u0, rfl, -, -, hq, -, a0, a1, a2, a3⟩ := HRW.out.at_ ht
   obtain ⟨k, T, l, m⟩ := t
   have hqw : q < wr.heap.size := by have := HBL.out.size; omega
   have HT := Lib.hid ht
   clear ht
   have X := Lib.hid (Bx4.newAt (g := wr.heap.size) wr (.int .i64 k) (.string T) (.int .i64 l) (.int .i64 m) 39 rfl)
   have HBA := Lib.hid (HBL.out.alloc HBL.out.size (.cells #[.int .i64 k, .string T, .int .i64 l, .int .i64 m] 39))
   rcases Nat.lt_or_ge 30 T.size with h30 | h30
   ·have d1 : decide ((30 : Int) < (T.size : Int)) = true := decide_eq_true (by omega)
    have HF : Hid (false = b) := by
     show _ = _
     rw [← HB.out]
     unfold smallB
     have : (L.map tok).all (fun t => decide (t.2.size ≤ 30)) = false := by
      rw [List.all_eq_false]
      exact ⟨tok (k, T, l, m), List.mem_map_of_mem (List.mem_of_getElem? HT.out), by show ¬ decide (T.size ≤ 30) = true; rw [decide_eq_true_iff]; omega⟩
     rw [this]; rfl
    go_wp2_with fail
    go_ret
    exact ⟨rb9 HF.out, HBA.out⟩
   ·have d1 : decide ((30 : Int) < (T.size : Int)) = false := decide_eq_false (by omega)
    go_wp2_with fail
    go_roundw
    case rel =>
     refine ⟨i + 1, by go_num, by omega, ?_, HBA.out⟩
     rw [List.take_add_one, List.all_append, ALL.out, List.getElem?_map, HT.out]
     show (true && ([tok (k, T, l, m)].all fun t => decide (t.2.size ≤ 30))) = true
     rw [Bool.true_and, List.all_cons, List.all_nil, Bool.and_true, decide_eq_true_iff]
     exact h30
    case measure => simp [intOf] <;> omega
  ·obtain rfl : i = n := by omega
   have HF : Hid (decide ((i : Int) ≤ 200) = b) := by
    show _ = _
    have hl : (L.map tok).length = i := by rw [List.length_map]; exact HLEN.out.symm
    rw [← HB.out]
    unfold smallB
    have h2 := ALL.out
    rw [List.take_of_length_le (by omega)] at h2
    rw [h2, Bool.true_and, hl]
    by_cases h3 : i ≤ 200
    ·rw [decide_eq_true h3, decide_eq_true (by omega)]
    ·rw [decide_eq_false h3, decide_eq_false (by omega)]
   go_wp2_with fail
   go_ret
   exact ⟨rb9 HF.out, HBL.out⟩
end Go.Proofs.YtdpkbglfebimcaaGreatDoor.Num
