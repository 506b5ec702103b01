/- What the proof needs, texts ExpZa, in one text. -/
import Derived.Test.YtdpkbglfebimcaaGreatDoorAll37
import Derived.Shelf.Abstract
set_option linter.unusedVariables false
set_option linter.unusedSimpArgs false
set_option maxRecDepth 100000
set_option maxHeartbeats 32000000
namespace Go.Proofs.YtdpkbglfebimcaaGreatDoor.Num
open Go.RowKit
theorem isAt_one {L : List Tok} {a x y : Nat} (h : isAt L a x = true) (hxy : x ≠ y) : isAt L a y = false := by
 unfold isAt at h ⊢
 cases hl : L[a]? with
 | none => rfl
 | some t =>
  rw [hl] at h
  have h2 : isg t x = true := h
  show isg t y = false
  unfold isg at h2 ⊢
  rw [Bool.and_eq_true, decide_eq_true_iff, decide_eq_true_iff] at h2
  rw [h2.2, decide_eq_false (p := [x] = [y]) (fun e => hxy (List.cons.inj e).1), Bool.and_false]
theorem chn_sum {L : List Tok} {G : Nat → Nat → Int → Nat → Prop} (hL : Siz L G) (i d : Nat) : Chn L G i (PRO L d) (fun v k a => SUML L d v k a) 43 45 where
 sx := .inl rfl
 sy := .inr (.inl rfl)
 fin := fun h1 h2 => SUML_end h1 h2
 err := fun h h2 => SUML_err h h2
 go := fun {v k a j t b z} hz ha hp _ => by
  rcases hz with rfl | rfl
  ·exact SUML_add ha hp
  ·exact SUML_sub (isAt_one ha (by decide)) ha hp
 bad := fun {v k a j t b z} hz _ _ h0 => by
  rcases hz with rfl | rfl
  ·exact absurd h0 (Nat.lt_irrefl 0)
  ·exact absurd h0 (Nat.lt_irrefl 0)
 grt := fun {v k a j t b z} hz hg hp _ => by
  rcases hz with rfl | rfl
  ·exact hL.add hg (hL.pro hp)
  ·exact hL.sub hg (hL.pro hp)
 rng := fun h => hL.rng h
 fits := fun h => hL.fits h
 pgrt := fun h => hL.pro h
 len := fun hg hp hj => hL.qlen hg (hL.pro hp) hj
theorem jnd_quo {i j : Int} {s t : Nat} (hj : j ≠ 0) : jnd 47 i s j t = (quoI i s j t, quoK i s j t, 0) := by
 show quv i s j t = _
 unfold quv; rw [if_neg hj]
theorem jnd_zero {i j : Int} {s t : Nat} (hj : j = 0) : jnd 47 i s j t = (0, 0, 4) := by
 show quv i s j t = _
 unfold quv; rw [if_pos hj]
theorem chn_pro {L : List Tok} {G : Nat → Nat → Int → Nat → Prop} (hL : Siz L G) (i d : Nat) : Chn L G i (FAC L d) (fun v k a => PROL L d v k a) 42 47 where
 sx := .inr (.inr (.inl rfl))
 sy := .inr (.inr (.inr rfl))
 fin := fun h1 h2 => PROL_end h1 h2
 err := fun h h2 => PROL_err h h2
 go := fun {v k a j t b z} hz ha hp h0 => by
  rcases hz with rfl | rfl
  ·exact PROL_mul ha hp
  ·by_cases hj : j = 0
   ·rw [jnd_zero hj] at h0; cases h0
   ·rw [jnd_quo hj]; exact PROL_quo (isAt_one ha (by decide)) ha hp hj
 bad := fun {v k a j t b z} hz ha hp h0 => by
  rcases hz with rfl | rfl
  ·exact absurd h0 (Nat.lt_irrefl 0)
  ·by_cases hj : j = 0
   ·rw [jnd_zero hj]; exact ⟨PROL_zero (isAt_one ha (by decide)) ha hp hj, rfl, rfl⟩
   ·rw [jnd_quo hj] at h0; exact absurd h0 (Nat.lt_irrefl 0)
 grt := fun {v k a j t b z} hz hg hp h0 => by
  rcases hz with rfl | rfl
  ·exact hL.mul hg (hL.fac hp)
  ·by_cases hj : j = 0
   ·rw [jnd_zero hj] at h0; cases h0
   ·rw [jnd_quo hj]; exact hL.quo hg (hL.fac hp) hj
 rng := fun h => hL.rng h
 fits := fun h => hL.fits h
 pgrt := fun h => hL.fac h
 len := fun hg hp hj => hL.qlen hg (hL.fac hp) hj
theorem psum {L : List Tk4} {i : Nat} {G : Nat → Nat → Int → Nat → Prop} (hL : Siz (L.map tok) G) (hi : i ≤ L.length) (HP : ∀ a, i ≤ a → a ≤ L.length → ProP L a) : SumP L i := by
 intro w g B n c d A hs hr hm hp hn hd
 have hent : ∀ (args : Array Value) (W : World), (callFunc 47 args).run Tryz.prog W = .ok (.enter 47 args) W := enters_of Tryz.func47 (by kernel_rfl) rfl
 have HE := Lib.hid hent
 have hmf : ∀ (fn : Fn) (first cap : Array Value) (w : World), (Instr.makeFunc fn first cap).run Tryz.prog w = .ok (.func fn first cap) w := fun _ _ _ _ => rfl
 clear hent
 have hlen := hr.len
 have hgw := hs.lt
 have E := Lib.hid (sy_start hs hr hm hp)
 have CN := chn_sum (L := L.map tok) hL i d
 have HPP : Hid (∀ a, i ≤ a → a ≤ n → ∀ w' : World, StP w' g A n c a d → RdK w' B A n c L → MaxLen w' → Calls Tryz.prog 47 #[.pointer (some ⟨g, 0, none⟩)] w' (RetX w' g A n c d (PRO (L.map tok) d a))) := fun a h1 h2 w' q1 q2 q3 => HP a h1 (by omega) q1 q2 q3 hp hn hd
 have hin : i ≤ n := by omega
 clear hs hr hm hlen
 go_enter Tryz.func25, Tryz.ntmps25
 go_wp2_with fail
 generalize hW : World.alloc w _ = W1 at E ⊢
 have hsz : w.heap.size + 1 = W1.heap.size := by rw [← hW]; simp
 clear hW
 have SG := Lib.hid (sgn_two W1 ⟨#[43]⟩ ⟨#[45]⟩ 9 (q := w.heap.size + 1) hsz)
 replace E := Lib.hid (E.out.alloc (.cells #[.string ⟨#[43]⟩, .string ⟨#[45]⟩] 9))
 generalize hV : World.alloc W1 _ = V1 at E SG ⊢
 clear hV
 refine (pchain (i := i) (s1 := ⟨#[43]⟩) (s2 := ⟨#[45]⟩) (S := SUM (L.map tok) d i) E.out.st E.out.rd E.out.mx hp hn hd HE.out hin CN rfl rfl SG.out ⟨fun e h => SUM_err h, fun v k b h => SUM_go h⟩ HPP.out).mono ?_; rintro e w9 ⟨x9, k9, A9, n9, c9, i9, e9, rfl, hnum9, hst9, hkp9, hout⟩
 replace E := Lib.hid (SY.push (SY.call E.out hkp9 hst9) hnum9)
 clear hnum9 hst9 hkp9
 have HO := Lib.hid hout
 clear hout
 obtain ⟨r0, r1, r2, rf0, rf1, rf2, rlt⟩ := SY.az (g1 := w.heap.size) E (by simp)
 go_wp2_with fail
 clear r0 r1 r2 rf0 rf1 rf2 rlt
 have EF := Lib.hid (SY.pz E.out (g1 := w.heap.size) (by simp) (.bool (ngB x9)) (.slice A9 n9 c9) (.int .i64 (k9 : Int)))
 obtain ⟨r0, r1, r2, _, _, _, _⟩ := SY.ad x9 A9 n9 c9 k9 (g1 := w.heap.size) EF (by simp)
 exact bodyPost_ret (v := .tuple #[.agg #[.bool (ngB x9), .slice A9 n9 c9, .int .i64 (k9 : Int)], .int .i64 (e9 : Int)]) (by simp [results, Tryz.results25, go_sem, r0, r1, r2]) rfl ⟨x9, k9, A9, n9, c9, i9, e9, rfl, SY.got EF (by simp), EF.out.st, EF.out.kp, HO.out⟩
theorem pprod {L : List Tk4} {i : Nat} {G : Nat → Nat → Int → Nat → Prop} (hL : Siz (L.map tok) G) (hi : i ≤ L.length) (HP : ∀ a, i ≤ a → a ≤ L.length → FacP L a) : ProP L i := by
 intro w g B n c d A hs hr hm hp hn hd
 have hent : ∀ (args : Array Value) (W : World), (callFunc 80 args).run Tryz.prog W = .ok (.enter 80 args) W := enters_of Tryz.func80 (by kernel_rfl) rfl
 have HE := Lib.hid hent
 have hmf : ∀ (fn : Fn) (first cap : Array Value) (w : World), (Instr.makeFunc fn first cap).run Tryz.prog w = .ok (.func fn first cap) w := fun _ _ _ _ => rfl
 clear hent
 have hlen := hr.len
 have hgw := hs.lt
 have E := Lib.hid (sy_start hs hr hm hp)
 have CN := chn_pro (L := L.map tok) hL i d
 have HPP : Hid (∀ a, i ≤ a → a ≤ n → ∀ w' : World, StP w' g A n c a d → RdK w' B A n c L → MaxLen w' → Calls Tryz.prog 80 #[.pointer (some ⟨g, 0, none⟩)] w' (RetX w' g A n c d (FAC (L.map tok) d a))) := fun a h1 h2 w' q1 q2 q3 => HP a h1 (by omega) q1 q2 q3 hp hn hd
 have hin : i ≤ n := by omega
 clear hs hr hm hlen
 go_enter Tryz.func47, Tryz.ntmps47
 go_wp2_with fail
 generalize hW : World.alloc w _ = W1 at E ⊢
 have hsz : w.heap.size + 1 = W1.heap.size := by rw [← hW]; simp
 clear hW
 have SG := Lib.hid (sgn_two W1 ⟨#[42]⟩ ⟨#[47]⟩ 9 (q := w.heap.size + 1) hsz)
 replace E := Lib.hid (E.out.alloc (.cells #[.string ⟨#[42]⟩, .string ⟨#[47]⟩] 9))
 generalize hV : World.alloc W1 _ = V1 at E SG ⊢
 clear hV
 refine (pchain (i := i) (s1 := ⟨#[42]⟩) (s2 := ⟨#[47]⟩) (S := PRO (L.map tok) d i) E.out.st E.out.rd E.out.mx hp hn hd HE.out hin CN rfl rfl SG.out ⟨fun e h => PRO_err h, fun v k b h => PRO_go h⟩ HPP.out).mono ?_; rintro e w9 ⟨x9, k9, A9, n9, c9, i9, e9, rfl, hnum9, hst9, hkp9, hout⟩
 replace E := Lib.hid (SY.push (SY.call E.out hkp9 hst9) hnum9)
 clear hnum9 hst9 hkp9
 have HO := Lib.hid hout
 clear hout
 obtain ⟨r0, r1, r2, rf0, rf1, rf2, rlt⟩ := SY.az (g1 := w.heap.size) E (by simp)
 go_wp2_with fail
 clear r0 r1 r2 rf0 rf1 rf2 rlt
 have EF := Lib.hid (SY.pz E.out (g1 := w.heap.size) (by simp) (.bool (ngB x9)) (.slice A9 n9 c9) (.int .i64 (k9 : Int)))
 obtain ⟨r0, r1, r2, _, _, _, _⟩ := SY.ad x9 A9 n9 c9 k9 (g1 := w.heap.size) EF (by simp)
 exact bodyPost_ret (v := .tuple #[.agg #[.bool (ngB x9), .slice A9 n9 c9, .int .i64 (k9 : Int)], .int .i64 (e9 : Int)]) (by simp [results, Tryz.results47, go_sem, r0, r1, r2]) rfl ⟨x9, k9, A9, n9, c9, i9, e9, rfl, SY.got EF (by simp), EF.out.st, EF.out.kp, HO.out⟩
theorem pall {L : List Tk4} {G : Nat → Nat → Int → Nat → Prop} (hL : Siz (L.map tok) G) : ∀ m i, i ≤ L.length → L.length - i < m → FacP L i ∧ ProP L i ∧ SumP L i := by
 intro m
 induction m with
 | zero => intro i _ h; omega
 | succ m ih =>
  intro i hi hm
  have later : ∀ j, i < j → j ≤ L.length → FacP L j ∧ ProP L j ∧ SumP L j := fun j h1 h2 => ih j h2 (by omega)
  have F : FacP L i := pfactor hL hi (fun h => (later (i + 1) (by omega) (by omega)).2.2) (fun h => (later (i + 1) (by omega) (by omega)).1)
  have P : ProP L i := pprod hL hi fun j h1 h2 => by
   rcases Nat.eq_or_lt_of_le h1 with rfl | h3
   ·exact F
   ·exact (later j h3 h2).1
  have S : SumP L i := psum hL hi fun j h1 h2 => by
   rcases Nat.eq_or_lt_of_le h1 with rfl | h3
   ·exact P
   ·exact (later j h3 h2).2.1
  exact ⟨F, P, S⟩
theorem psum_at {L : List Tk4} {G : Nat → Nat → Int → Nat → Prop} (hL : Siz (L.map tok) G) {i : Nat} (hi : i ≤ L.length) : SumP L i := (pall hL (L.length + 1) i hi (by omega)).2.2
theorem peval_bad {w : World} {B n c : Nat} {A : Option Addr} {L : List Tk4} (hr : RdK w B A n c L) (hn : n ≤ 200) {a : Int} (ha : a < 0 ∨ (n : Int) < a) :
  Calls Tryz.prog 9 #[.slice A n c, .int .i64 a] w (RetE w (0, 0, a, 1)) := by
 have E := Lib.hid ((St.start w (l := []) (by intro q hq; cases hq)).lay (g := w.heap.size) (x0 := .bool false) (x1 := .slice none 0 0) (x2 := .int .i64 0) (t := 26) rfl)
 clear hr
 by_cases h : a < 0
 ·have d1 : decide (a < 0) = true := decide_eq_true h
  go_enter Tryz.func9, Tryz.ntmps9
  go_wp2_with fail
  obtain ⟨r0, r1, r2, _, _, _, _⟩ := St.az (g := w.heap.size) E (by simp)
  exact bodyPost_ret (v := .tuple #[.agg #[.bool false, .slice none 0 0, .int .i64 0], .int .i64 a, .int .i64 1]) (by simp [results, Tryz.results9, go_sem, r0, r1, r2]) rfl ⟨none, 0, 0, rfl, num_zero _ _, E.out.bel⟩
 ·have d1 : decide (a < 0) = false := decide_eq_false (by omega)
  have d2 : decide ((n : Int) < a) = true := decide_eq_true (by omega)
  go_enter Tryz.func9, Tryz.ntmps9
  go_wp2_with fail
  obtain ⟨r0, r1, r2, _, _, _, _⟩ := St.az (g := w.heap.size) E (by simp)
  exact bodyPost_ret (v := .tuple #[.agg #[.bool false, .slice none 0 0, .int .i64 0], .int .i64 a, .int .i64 1]) (by simp [results, Tryz.results9, go_sem, r0, r1, r2]) rfl ⟨none, 0, 0, rfl, num_zero _ _, E.out.bel⟩
theorem stp_new (v : World) {g n c a : Nat} {A : Option Addr} (h : g = v.heap.size) : StP (v.alloc (.cells #[.slice A n c, .int .i64 (a : Int), .int .i64 0] 53)) g A n c a 0 := by
 subst h; exact heap_alloc_new v _
theorem peval_ok {w : World} {B n c i : Nat} {A : Option Addr} {L : List Tk4} (hr : RdK w B A n c L) (hB : B ≤ w.heap.size) (hn : n ≤ 200) {G : Nat → Nat → Int → Nat → Prop} (hL : Siz (L.map tok) G) (hi : i ≤ n) (hm : MaxLen w) :
  Calls Tryz.prog 9 #[.slice A n c, .int .i64 (i : Int)] w (RetE w (evl (L.map tok) (i : Int))) := by
 have hlen := hr.len
 have HSUM : SumP L i := psum_at hL (by omega)
 have d1 : decide ((i : Int) < 0) = false := decide_eq_false (by omega)
 have d2 : decide ((n : Int) < (i : Int)) = false := decide_eq_false (by omega)
 have d3 : decide (n < i) = false := decide_eq_false (by omega)
 have HV : Hid (evl (L.map tok) (i : Int) = match SUM (L.map tok) 0 i with | .inl (z, b) => (0, 0, (b : Int), z) | .inr (x, k, b) => (x, k, (b : Int), 0)) := by
  show _ = _
  unfold evl
  rw [if_neg (by rw [List.length_map]; omega)]
  rfl
 have E0 := (St.start w (l := []) (by intro q hq; cases hq)).lay (g := w.heap.size) (x0 := .bool false) (x1 := .slice none 0 0) (x2 := .int .i64 0) (t := 26) rfl
 have hb1 : Below w.heap.size w ((w.alloc (.cells #[.bool false, .slice none 0 0, .int .i64 0] 26)).alloc (.cells #[.slice A n c, .int .i64 (i : Int), .int .i64 0] 53)) := ((Below.refl _ _).alloc (Nat.le_refl _) _).alloc (by simp) _
 have HR := Lib.hid (hr.on hB hb1)
 have HM := Lib.hid (hm.on hb1)
 have HE := Lib.hid (E0.alloc (.cells #[.slice A n c, .int .i64 (i : Int), .int .i64 0] 53))
 have HS : Hid (StP _ (w.heap.size + 1) A n c i 0) := stp_new (w.alloc (.cells #[.bool false, .slice none 0 0, .int .i64 0] 26)) (by simp)
 clear hr hlen hb1 E0 hm
 go_enter Tryz.func9, Tryz.ntmps9
 go_wp2_with fail
 generalize hW : World.alloc (World.alloc w _) _ = W1 at HR HM HE HS ⊢
 clear hW
 refine (HSUM HS.out HR.out HM.out (by omega) hn (by omega)).mono ?_; rintro e w9 ⟨x9, k9, A9, n9, c9, i9, e9, rfl, hnum9, hst9, hkp9, hout⟩
 have hbel : Below w.heap.size w w9 := HE.out.bel.trans (hkp9.below (Nat.le_succ _) (fun g e => by cases e) HE.out.bel.size)
 have hbox : Box w9 w.heap.size (.bool false) (.slice none 0 0) (.int .i64 0) := (St.at_ HE (by simp)).kp hkp9 (by omega)
 have E : Hid (St w w9 [(A9, n9, c9, x9.natAbs)] [(w.heap.size, .bool false, .slice none 0 0, .int .i64 0)]) := ⟨hbel, fun q hq => by simp at hq; subst hq; exact hnum9, fun q hq => by simp at hq; subst hq; exact ⟨hbox, Nat.le_refl _⟩⟩
 have S9 := Lib.hid hst9
 have hlt9 : w.heap.size < w9.heap.size := hbox.lt
 have hgl9 := hst9.lt
 have HV2 : Hid (evl (L.map tok) (i : Int) = (x9, k9, (i9 : Int), e9)) := by
  show _ = _
  rw [HV.out]
  cases hS : SUM (L.map tok) 0 i with
  | inl r =>
   obtain ⟨z, b⟩ := r
   rw [hS] at hout
   obtain ⟨-, rfl, rfl, rfl, rfl⟩ := hout
   rfl
  | inr r =>
   obtain ⟨j, s, b⟩ := r
   rw [hS] at hout
   obtain ⟨rfl, rfl, rfl, rfl⟩ := hout
   rfl
 clear hnum9 hst9 hkp9 hbel hbox hout HR HE HS HM HV
 obtain ⟨g, hg⟩ : ∃ g, w.heap.size + 1 = g := ⟨_, rfl⟩
 have n1 : g ≠ w.heap.size := by omega
 have n2 : w.heap.size ≠ g := by omega
 rw [hg] at S9 hgl9 ⊢
 clear hg
 obtain ⟨p0, p1, p2, pf0, pf1, pf2, plt⟩ := S9.out.bx
 obtain ⟨r0, r1, r2, rf0, rf1, rf2, rlt⟩ := St.az (g := w.heap.size) E (by simp)
 go_wp2_with fail
 clear p0 p1 p2 pf0 pf1 pf2 plt r0 r1 r2 rf0 rf1 rf2 rlt
 replace S9 := Lib.hid (S9.out.on ((Below.refl _ w9).alloc (Nat.le_refl _) (.cells #[.bool (ngB x9), .slice A9 n9 c9, .int .i64 (k9 : Int)] 26)))
 replace E := Lib.hid (E.out.lay (g := w9.heap.size) (x0 := .bool (ngB x9)) (x1 := .slice A9 n9 c9) (x2 := .int .i64 (k9 : Int)) (t := 26) rfl)
 generalize hV : World.alloc w9 _ = V at E S9 ⊢
 clear hV
 obtain ⟨p0, p1, p2, pf0, pf1, pf2, plt⟩ := S9.out.bx
 obtain ⟨r0, r1, r2, rf0, rf1, rf2, rlt⟩ := St.az (g := w.heap.size) E (by simp)
 obtain ⟨y0, y1, y2, yf0, yf1, yf2, ylt⟩ := St.ad x9 A9 n9 c9 k9 (g := w9.heap.size) E (by simp)
 go_region
 go_wp2_with fail
 clear p0 p1 p2 pf0 pf1 pf2 plt r0 r1 r2 rf0 rf1 rf2 rlt y0 y1 y2 yf0 yf1 yf2 ylt
 have EF := Lib.hid (St.sz E.out (g := w.heap.size) (by simp) (.bool (ngB x9)) (.slice A9 n9 c9) (.int .i64 (k9 : Int)))
 replace EF := Lib.hid EF.out.drew
 obtain ⟨r0, r1, r2, _, _, _, _⟩ := St.ad x9 A9 n9 c9 k9 (g := w.heap.size) EF (by simp)
 exact bodyPost_ret (v := .tuple #[.agg #[.bool (ngB x9), .slice A9 n9 c9, .int .i64 (k9 : Int)], .int .i64 (i9 : Int), .int .i64 (e9 : Int)]) (by simp [results, Tryz.results9, go_sem, r0, r1, r2]) rfl (by rw [HV2.out]; exact ⟨A9, n9, c9, rfl, St.got EF (by simp), EF.out.bel⟩)
theorem peval {w : World} {B n c : Nat} {A : Option Addr} {L : List Tk4} (a : Int) (hr : RdK w B A n c L) (hB : B ≤ w.heap.size) (hn : n ≤ 200) {G : Nat → Nat → Int → Nat → Prop} (hL : Siz (L.map tok) G) (hm : MaxLen w) : Calls Tryz.prog 9 #[.slice A n c, .int .i64 a] w (RetE w (evl (L.map tok) a)) := by
 have hlen := hr.len
 by_cases h : a < 0 ∨ (n : Int) < a
 ·have e : evl (L.map tok) a = (0, 0, a, 1) := by unfold evl; rw [if_pos (by rw [List.length_map, ← hlen]; exact h)]
  rw [e]; exact peval_bad hr hn h
 ·obtain ⟨i, rfl⟩ : ∃ i : Nat, (i : Int) = a := ⟨a.toNat, by omega⟩
  exact peval_ok hr hB hn hL (by omega) hm
theorem evl13 : EVL Ok12 := fun {w B n c A L} a hr hB hn hL hok => peval a hr hB hn (siz_many hL (by rw [List.length_map]; have := hr.len; omega)) hok.2.1
theorem quo13 : QUO Ok12 := fun {w A A' n c n' c' s t i j} h h' hn hn' hs ht _ => pquo h h' (by omega) (by omega) (by omega) (by omega) fun hj => by
 have := (quoQ_size (t := t) (Sz.of_len (x := i) (s := s) (n := 12) (by have := h.len; omega)) hj).nine
 omega
theorem sts13 : STS Ok12 := by intro k T l c w _; exact pstarts rfl l c
end Go.Proofs.YtdpkbglfebimcaaGreatDoor.Num
