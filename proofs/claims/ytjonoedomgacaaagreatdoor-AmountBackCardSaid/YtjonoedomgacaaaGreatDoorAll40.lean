/- What the proof needs, texts ExpZa, AmoG, AmoH, AmoI, AmoJ, AmoK, AmoL, AmoM, AmoN, AmoO, AmoP, AmoQ, AmoT, AmoR, in one text. -/
import Derived.Test.YtjonoedomgacaaaGreatDoorAll37
import Derived.Shelf.Abstract
import Derived.Test.YtjonoedomgacaaaGreatDoorAll39
import Derived.Test.YtjonoedomgacaaaGreatDoorAll32
set_option linter.unusedVariables false
set_option linter.unusedSimpArgs false
set_option maxRecDepth 100000
set_option maxHeartbeats 32000000
namespace Go.Proofs.YtjonoedomgacaaaGreatDoor.Num
open Go.RowKit
theorem isAt_one {L : List Tok} {a x y : Nat} (h : isAt L a x = true) (hxy : x ≠ y) : isAt L a y = false := by
 unfold isAt at h ⊢
 cases hl : L[a]? with
 | none => rfl
 | some t =>
  rw [hl] at h
  have h2 : isg t x = true := h
  show isg t y = false
  unfold isg at h2 ⊢
  rw [Bool.and_eq_true, decide_eq_true_iff, decide_eq_true_iff] at h2
  rw [h2.2, decide_eq_false (p := [x] = [y]) (fun e => hxy (List.cons.inj e).1), Bool.and_false]
theorem chn_sum {L : List Tok} {G : Nat → Nat → Int → Nat → Prop} (hL : Siz L G) (i d : Nat) : Chn L G i (PRO L d) (fun v k a => SUML L d v k a) 43 45 where
 sx := .inl rfl
 sy := .inr (.inl rfl)
 fin := fun h1 h2 => SUML_end h1 h2
 err := fun h h2 => SUML_err h h2
 go := fun {v k a j t b z} hz ha hp _ => by
  rcases hz with rfl | rfl
  ·exact SUML_add ha hp
  ·exact SUML_sub (isAt_one ha (by decide)) ha hp
 bad := fun {v k a j t b z} hz _ _ h0 => by
  rcases hz with rfl | rfl
  ·exact absurd h0 (Nat.lt_irrefl 0)
  ·exact absurd h0 (Nat.lt_irrefl 0)
 grt := fun {v k a j t b z} hz hg hp _ => by
  rcases hz with rfl | rfl
  ·exact hL.add hg (hL.pro hp)
  ·exact hL.sub hg (hL.pro hp)
 rng := fun h => hL.rng h
 fits := fun h => hL.fits h
 pgrt := fun h => hL.pro h
 len := fun hg hp hj => hL.qlen hg (hL.pro hp) hj
theorem jnd_quo {i j : Int} {s t : Nat} (hj : j ≠ 0) : jnd 47 i s j t = (quoI i s j t, quoK i s j t, 0) := by
 show quv i s j t = _
 unfold quv; rw [if_neg hj]
theorem jnd_zero {i j : Int} {s t : Nat} (hj : j = 0) : jnd 47 i s j t = (0, 0, 4) := by
 show quv i s j t = _
 unfold quv; rw [if_pos hj]
theorem chn_pro {L : List Tok} {G : Nat → Nat → Int → Nat → Prop} (hL : Siz L G) (i d : Nat) : Chn L G i (FAC L d) (fun v k a => PROL L d v k a) 42 47 where
 sx := .inr (.inr (.inl rfl))
 sy := .inr (.inr (.inr rfl))
 fin := fun h1 h2 => PROL_end h1 h2
 err := fun h h2 => PROL_err h h2
 go := fun {v k a j t b z} hz ha hp h0 => by
  rcases hz with rfl | rfl
  ·exact PROL_mul ha hp
  ·by_cases hj : j = 0
   ·rw [jnd_zero hj] at h0; cases h0
   ·rw [jnd_quo hj]; exact PROL_quo (isAt_one ha (by decide)) ha hp hj
 bad := fun {v k a j t b z} hz ha hp h0 => by
  rcases hz with rfl | rfl
  ·exact absurd h0 (Nat.lt_irrefl 0)
  ·by_cases hj : j = 0
   ·rw [jnd_zero hj]; exact ⟨PROL_zero (isAt_one ha (by decide)) ha hp hj, rfl, rfl⟩
   ·rw [jnd_quo hj] at h0; exact absurd h0 (Nat.lt_irrefl 0)
 grt := fun {v k a j t b z} hz hg hp h0 => by
  rcases hz with rfl | rfl
  ·exact hL.mul hg (hL.fac hp)
  ·by_cases hj : j = 0
   ·rw [jnd_zero hj] at h0; cases h0
   ·rw [jnd_quo hj]; exact hL.quo hg (hL.fac hp) hj
 rng := fun h => hL.rng h
 fits := fun h => hL.fits h
 pgrt := fun h => hL.fac h
 len := fun hg hp hj => hL.qlen hg (hL.fac hp) hj
theorem psum {L : List Tk4} {i : Nat} {G : Nat → Nat → Int → Nat → Prop} (hL : Siz (L.map tok) G) (hi : i ≤ L.length) (HP : ∀ a, i ≤ a → a ≤ L.length → ProP L a) : SumP L i := by
 intro w g B n c d A hs hr hm hp hn hd
 have hent : ∀ (args : Array Value) (W : World), (callFunc 75 args).run Tryz.prog W = .ok (.enter 75 args) W := enters_of Tryz.func75 (by kernel_rfl) rfl
 have HE := Lib.hid hent
 have hmf : ∀ (fn : Fn) (first cap : Array Value) (w : World), (Instr.makeFunc fn first cap).run Tryz.prog w = .ok (.func fn first cap) w := fun _ _ _ _ => rfl
 clear hent
 have hlen := hr.len
 have hgw := hs.lt
 have E := Lib.hid (sy_start hs hr hm hp)
 have CN := chn_sum (L := L.map tok) hL i d
 have HPP : Hid (∀ a, i ≤ a → a ≤ n → ∀ w' : World, StP w' g A n c a d → RdK w' B A n c L → MaxLen w' → Calls Tryz.prog 75 #[.pointer (some ⟨g, 0, none⟩)] w' (RetX w' g A n c d (PRO (L.map tok) d a))) := fun a h1 h2 w' q1 q2 q3 => HP a h1 (by omega) q1 q2 q3 hp hn hd
 have hin : i ≤ n := by omega
 clear hs hr hm hlen
 go_enter Tryz.func53, Tryz.ntmps53
 go_wp2_with fail
 generalize hW : World.alloc w _ = W1 at E ⊢
 have hsz : w.heap.size + 1 = W1.heap.size := by rw [← hW]; simp
 clear hW
 have SG := Lib.hid (sgn_two W1 ⟨#[43]⟩ ⟨#[45]⟩ 9 (q := w.heap.size + 1) hsz)
 replace E := Lib.hid (E.out.alloc (.cells #[.string ⟨#[43]⟩, .string ⟨#[45]⟩] 9))
 generalize hV : World.alloc W1 _ = V1 at E SG ⊢
 clear hV
 refine (pchain (i := i) (s1 := ⟨#[43]⟩) (s2 := ⟨#[45]⟩) (S := SUM (L.map tok) d i) E.out.st E.out.rd E.out.mx hp hn hd HE.out hin CN rfl rfl SG.out ⟨fun e h => SUM_err h, fun v k b h => SUM_go h⟩ HPP.out).mono ?_; rintro e w9 ⟨x9, k9, A9, n9, c9, i9, e9, rfl, hnum9, hst9, hkp9, hout⟩
 replace E := Lib.hid (SY.push (SY.call E.out hkp9 hst9) hnum9)
 clear hnum9 hst9 hkp9
 have HO := Lib.hid hout
 clear hout
 obtain ⟨r0, r1, r2, rf0, rf1, rf2, rlt⟩ := SY.az (g1 := w.heap.size) E (by simp)
 go_wp2_with fail
 clear r0 r1 r2 rf0 rf1 rf2 rlt
 have EF := Lib.hid (SY.pz E.out (g1 := w.heap.size) (by simp) (.bool (ngB x9)) (.slice A9 n9 c9) (.int .i64 (k9 : Int)))
 obtain ⟨r0, r1, r2, _, _, _, _⟩ := SY.ad x9 A9 n9 c9 k9 (g1 := w.heap.size) EF (by simp)
 exact bodyPost_ret (v := .tuple #[.agg #[.bool (ngB x9), .slice A9 n9 c9, .int .i64 (k9 : Int)], .int .i64 (e9 : Int)]) (by simp [results, Tryz.results53, go_sem, r0, r1, r2]) rfl ⟨x9, k9, A9, n9, c9, i9, e9, rfl, SY.got EF (by simp), EF.out.st, EF.out.kp, HO.out⟩
theorem pprod {L : List Tk4} {i : Nat} {G : Nat → Nat → Int → Nat → Prop} (hL : Siz (L.map tok) G) (hi : i ≤ L.length) (HP : ∀ a, i ≤ a → a ≤ L.length → FacP L a) : ProP L i := by
 intro w g B n c d A hs hr hm hp hn hd
 have hent : ∀ (args : Array Value) (W : World), (callFunc 99 args).run Tryz.prog W = .ok (.enter 99 args) W := enters_of Tryz.func99 (by kernel_rfl) rfl
 have HE := Lib.hid hent
 have hmf : ∀ (fn : Fn) (first cap : Array Value) (w : World), (Instr.makeFunc fn first cap).run Tryz.prog w = .ok (.func fn first cap) w := fun _ _ _ _ => rfl
 clear hent
 have hlen := hr.len
 have hgw := hs.lt
 have E := Lib.hid (sy_start hs hr hm hp)
 have CN := chn_pro (L := L.map tok) hL i d
 have HPP : Hid (∀ a, i ≤ a → a ≤ n → ∀ w' : World, StP w' g A n c a d → RdK w' B A n c L → MaxLen w' → Calls Tryz.prog 99 #[.pointer (some ⟨g, 0, none⟩)] w' (RetX w' g A n c d (FAC (L.map tok) d a))) := fun a h1 h2 w' q1 q2 q3 => HP a h1 (by omega) q1 q2 q3 hp hn hd
 have hin : i ≤ n := by omega
 clear hs hr hm hlen
 go_enter Tryz.func75, Tryz.ntmps75
 go_wp2_with fail
 generalize hW : World.alloc w _ = W1 at E ⊢
 have hsz : w.heap.size + 1 = W1.heap.size := by rw [← hW]; simp
 clear hW
 have SG := Lib.hid (sgn_two W1 ⟨#[42]⟩ ⟨#[47]⟩ 9 (q := w.heap.size + 1) hsz)
 replace E := Lib.hid (E.out.alloc (.cells #[.string ⟨#[42]⟩, .string ⟨#[47]⟩] 9))
 generalize hV : World.alloc W1 _ = V1 at E SG ⊢
 clear hV
 refine (pchain (i := i) (s1 := ⟨#[42]⟩) (s2 := ⟨#[47]⟩) (S := PRO (L.map tok) d i) E.out.st E.out.rd E.out.mx hp hn hd HE.out hin CN rfl rfl SG.out ⟨fun e h => PRO_err h, fun v k b h => PRO_go h⟩ HPP.out).mono ?_; rintro e w9 ⟨x9, k9, A9, n9, c9, i9, e9, rfl, hnum9, hst9, hkp9, hout⟩
 replace E := Lib.hid (SY.push (SY.call E.out hkp9 hst9) hnum9)
 clear hnum9 hst9 hkp9
 have HO := Lib.hid hout
 clear hout
 obtain ⟨r0, r1, r2, rf0, rf1, rf2, rlt⟩ := SY.az (g1 := w.heap.size) E (by simp)
 go_wp2_with fail
 clear r0 r1 r2 rf0 rf1 rf2 rlt
 have EF := Lib.hid (SY.pz E.out (g1 := w.heap.size) (by simp) (.bool (ngB x9)) (.slice A9 n9 c9) (.int .i64 (k9 : Int)))
 obtain ⟨r0, r1, r2, _, _, _, _⟩ := SY.ad x9 A9 n9 c9 k9 (g1 := w.heap.size) EF (by simp)
 exact bodyPost_ret (v := .tuple #[.agg #[.bool (ngB x9), .slice A9 n9 c9, .int .i64 (k9 : Int)], .int .i64 (e9 : Int)]) (by simp [results, Tryz.results75, go_sem, r0, r1, r2]) rfl ⟨x9, k9, A9, n9, c9, i9, e9, rfl, SY.got EF (by simp), EF.out.st, EF.out.kp, HO.out⟩
theorem pall {L : List Tk4} {G : Nat → Nat → Int → Nat → Prop} (hL : Siz (L.map tok) G) : ∀ m i, i ≤ L.length → L.length - i < m → FacP L i ∧ ProP L i ∧ SumP L i := by
 intro m
 induction m with
 | zero => intro i _ h; omega
 | succ m ih =>
  intro i hi hm
  have later : ∀ j, i < j → j ≤ L.length → FacP L j ∧ ProP L j ∧ SumP L j := fun j h1 h2 => ih j h2 (by omega)
  have F : FacP L i := pfactor hL hi (fun h => (later (i + 1) (by omega) (by omega)).2.2) (fun h => (later (i + 1) (by omega) (by omega)).1)
  have P : ProP L i := pprod hL hi fun j h1 h2 => by
   rcases Nat.eq_or_lt_of_le h1 with rfl | h3
   ·exact F
   ·exact (later j h3 h2).1
  have S : SumP L i := psum hL hi fun j h1 h2 => by
   rcases Nat.eq_or_lt_of_le h1 with rfl | h3
   ·exact P
   ·exact (later j h3 h2).2.1
  exact ⟨F, P, S⟩
theorem psum_at {L : List Tk4} {G : Nat → Nat → Int → Nat → Prop} (hL : Siz (L.map tok) G) {i : Nat} (hi : i ≤ L.length) : SumP L i := (pall hL (L.length + 1) i hi (by omega)).2.2
theorem stp_new (v : World) {g n c a : Nat} {A : Option Addr} (h : g = v.heap.size) : StP (v.alloc (.cells #[.slice A n c, .int .i64 (a : Int), .int .i64 0] 115)) g A n c a 0 := by
 subst h; exact heap_alloc_new v _
theorem peval_ok {w : World} {B n c i : Nat} {A : Option Addr} {L : List Tk4} (hr : RdK w B A n c L) (hB : B ≤ w.heap.size) (hn : n ≤ 400) {G : Nat → Nat → Int → Nat → Prop} (hL : Siz (L.map tok) G) (hi : i ≤ n) (hm : MaxLen w) :
  Calls Tryz.prog 35 #[.slice A n c, .int .i64 (i : Int)] w (RetE w (evl (L.map tok) (i : Int))) := by
 have hlen := hr.len
 have HSUM : SumP L i := psum_at hL (by omega)
 have d1 : decide ((i : Int) < 0) = false := decide_eq_false (by omega)
 have d2 : decide ((n : Int) < (i : Int)) = false := decide_eq_false (by omega)
 have d3 : decide (n < i) = false := decide_eq_false (by omega)
 have HV : Hid (evl (L.map tok) (i : Int) = match SUM (L.map tok) 0 i with | .inl (z, b) => (0, 0, (b : Int), z) | .inr (x, k, b) => (x, k, (b : Int), 0)) := by
  show _ = _
  unfold evl
  rw [if_neg (by rw [List.length_map]; omega)]
  rfl
 have E0 := (St.start w (l := []) (by intro q hq; cases hq)).lay (g := w.heap.size) (x0 := .bool false) (x1 := .slice none 0 0) (x2 := .int .i64 0) (t := 28) rfl
 have hb1 : Below w.heap.size w ((w.alloc (.cells #[.bool false, .slice none 0 0, .int .i64 0] 28)).alloc (.cells #[.slice A n c, .int .i64 (i : Int), .int .i64 0] 115)) := ((Below.refl _ _).alloc (Nat.le_refl _) _).alloc (by simp) _
 have HR := Lib.hid (hr.on hB hb1)
 have HM := Lib.hid (hm.on hb1)
 have HE := Lib.hid (E0.alloc (.cells #[.slice A n c, .int .i64 (i : Int), .int .i64 0] 115))
 have HS : Hid (StP _ (w.heap.size + 1) A n c i 0) := stp_new (w.alloc (.cells #[.bool false, .slice none 0 0, .int .i64 0] 28)) (by simp)
 clear hr hlen hb1 E0 hm
 go_enter Tryz.func35, Tryz.ntmps35
 go_wp2_with fail
 generalize hW : World.alloc (World.alloc w _) _ = W1 at HR HM HE HS ⊢
 clear hW
 refine (HSUM HS.out HR.out HM.out (by omega) hn (by omega)).mono ?_; rintro e w9 ⟨x9, k9, A9, n9, c9, i9, e9, rfl, hnum9, hst9, hkp9, hout⟩
 have hbel : Below w.heap.size w w9 := HE.out.bel.trans (hkp9.below (Nat.le_succ _) (fun g e => by cases e) HE.out.bel.size)
 have hbox : Box w9 w.heap.size (.bool false) (.slice none 0 0) (.int .i64 0) := (St.at_ HE (by simp)).kp hkp9 (by omega)
 have E : Hid (St w w9 [(A9, n9, c9, x9.natAbs)] [(w.heap.size, .bool false, .slice none 0 0, .int .i64 0)]) := ⟨hbel, fun q hq => by simp at hq; subst hq; exact hnum9, fun q hq => by simp at hq; subst hq; exact ⟨hbox, Nat.le_refl _⟩⟩
 have S9 := Lib.hid hst9
 have hlt9 : w.heap.size < w9.heap.size := hbox.lt
 have hgl9 := hst9.lt
 have HV2 : Hid (evl (L.map tok) (i : Int) = (x9, k9, (i9 : Int), e9)) := by
  show _ = _
  rw [HV.out]
  cases hS : SUM (L.map tok) 0 i with
  | inl r =>
   obtain ⟨z, b⟩ := r
   rw [hS] at hout
   obtain ⟨-, rfl, rfl, rfl, rfl⟩ := hout
   rfl
  | inr r =>
   obtain ⟨j, s, b⟩ := r
   rw [hS] at hout
   obtain ⟨rfl, rfl, rfl, rfl⟩ := hout
   rfl
 clear hnum9 hst9 hkp9 hbel hbox hout HR HE HS HM HV
 obtain ⟨g, hg⟩ : ∃ g, w.heap.size + 1 = g := ⟨_, rfl⟩
 have n1 : g ≠ w.heap.size := by omega
 have n2 : w.heap.size ≠ g := by omega
 rw [hg] at S9 hgl9 ⊢
 clear hg
 obtain ⟨p0, p1, p2, pf0, pf1, pf2, plt⟩ := S9.out.bx
 obtain ⟨r0, r1, r2, rf0, rf1, rf2, rlt⟩ := St.az (g := w.heap.size) E (by simp)
 go_wp2_with fail
 clear p0 p1 p2 pf0 pf1 pf2 plt r0 r1 r2 rf0 rf1 rf2 rlt
 replace S9 := Lib.hid (S9.out.on ((Below.refl _ w9).alloc (Nat.le_refl _) (.cells #[.bool (ngB x9), .slice A9 n9 c9, .int .i64 (k9 : Int)] 28)))
 replace E := Lib.hid (E.out.lay (g := w9.heap.size) (x0 := .bool (ngB x9)) (x1 := .slice A9 n9 c9) (x2 := .int .i64 (k9 : Int)) (t := 28) rfl)
 generalize hV : World.alloc w9 _ = V at E S9 ⊢
 clear hV
 obtain ⟨p0, p1, p2, pf0, pf1, pf2, plt⟩ := S9.out.bx
 obtain ⟨r0, r1, r2, rf0, rf1, rf2, rlt⟩ := St.az (g := w.heap.size) E (by simp)
 obtain ⟨y0, y1, y2, yf0, yf1, yf2, ylt⟩ := St.ad x9 A9 n9 c9 k9 (g := w9.heap.size) E (by simp)
 go_region
 go_wp2_with fail
 clear p0 p1 p2 pf0 pf1 pf2 plt r0 r1 r2 rf0 rf1 rf2 rlt y0 y1 y2 yf0 yf1 yf2 ylt
 have EF := Lib.hid (St.sz E.out (g := w.heap.size) (by simp) (.bool (ngB x9)) (.slice A9 n9 c9) (.int .i64 (k9 : Int)))
 replace EF := Lib.hid EF.out.drew
 obtain ⟨r0, r1, r2, _, _, _, _⟩ := St.ad x9 A9 n9 c9 k9 (g := w.heap.size) EF (by simp)
 exact bodyPost_ret (v := .tuple #[.agg #[.bool (ngB x9), .slice A9 n9 c9, .int .i64 (k9 : Int)], .int .i64 (i9 : Int), .int .i64 (e9 : Int)]) (by simp [results, Tryz.results35, go_sem, r0, r1, r2]) rfl (by rw [HV2.out]; exact ⟨A9, n9, c9, rfl, St.got EF (by simp), EF.out.bel⟩)
theorem pday_is {s : ByteArray} {w : World} (hok : Ok12 w) (hs : s.size ≤ 6000) {y m d : Int} (h : pday s = (y, m, d)) : Calls Tryz.prog 44 #[.string s] w (fun e w' => ∃ z : Nat, e = .returned (.tuple #[.agg #[.int .i64 y, .int .i64 m, .int .i64 d], .int .i64 (z : Int)]) ∧ Below w.heap.size w w') := by
 unfold pday at h
 cases hp : Dat.prOk s with
 | true =>
  rw [hp, if_pos rfl] at h
  have hp2 := hp
  unfold Dat.prOk at hp2
  rw [Bool.and_eq_true] at hp2
  have e1 : Dat.prY s = y := congrArg Prod.fst h
  have e2 : Dat.prM s = m := congrArg (fun x => x.2.1) h
  have e3 : Dat.prD s = d := congrArg (fun x => x.2.2) h
  exact (Dat.parse_is hok.1 hp2.1 e1 e2 e3 (by rw [← e1, ← e2, ← e3]; exact hp2.2)).mono fun e w' h => ⟨0, h.1, h.2⟩
 | false =>
  rw [hp, if_neg (by decide)] at h
  have e1 : 0 = y := congrArg Prod.fst h
  have e2 : 0 = m := congrArg (fun x => x.2.1) h
  have e3 : 0 = d := congrArg (fun x => x.2.2) h
  subst e1; subst e2; subst e3
  exact (Dat.parse_no hok.1 hs hp).mono fun e w' h => ⟨3, h.1, h.2⟩
theorem dayt_is {y m d : Int} {S : ByteArray} {w : World} (hok : Ok12 w) (h : dayT (y, m, d) = bs9 S) : Calls Tryz.prog 31 #[.agg #[.int .i64 y, .int .i64 m, .int .i64 d]] w (Ret9 w (.string S)) :=
 (Dat.text_is hok.1 (bs9_inj h)).mono fun e w' h => ⟨h.1, h.2⟩
theorem noLimb_str (s : ByteArray) : NoLimb (.string s) := fun _ h => by cases h
def Cl (xs : Array Value) : Prop := ∀ x ∈ xs.toList, NoLimb x
theorem Bk.noLimb {w : World} {g j : Nat} {xs : Array Value} {t : TypeId} (h : Bk w g xs t) (hc : Cl xs) {x : Nat} (hx : w.cell? ⟨g, j, none⟩ = some (.int .u32 (x : Int))) : False := by
 rw [h.cell j, ← Array.getElem?_toList] at hx
 exact hc _ (List.mem_of_getElem? hx) x rfl
theorem Lim.bk {w w' : World} {B n c g : Nat} {A : Option Addr} {ys : List Nat} {xs : Array Value} {t : TypeId} (h : Lim w B A n c ys) (hs : Bk w g xs t) (hc : Cl xs) (hB : B ≤ w.heap.size) (hk : Kp g none w w') : Lim w' B A n c ys := by
 refine ⟨h.len, h.cap, h.room, h.fit, ?_, h.addr⟩
 rcases h.row with h' | ⟨b, o, rfl, hb, hr⟩
 ·exact .inl h'
 ·refine .inr ⟨b, o, rfl, hb, fun j u hu => ?_⟩
  have hj := hr j u hu
  by_cases hbg : b = g
  ·exfalso
   have := List.mem_of_getElem? hu
   unfold vals at this
   obtain ⟨x, _, rfl⟩ := List.mem_map.1 this
   subst hbg
   exact hs.noLimb hc hj
  ·exact (World.cell?_of_block (hk.block b (by omega) hbg (by simp))).trans hj
theorem Bk.kp {w w' : World} {g q : Nat} {xs : Array Value} {t : TypeId} (h : Bk w q xs t) (hk : Kp g none w w') (hq : q ≠ g) : Bk w' q xs t := (hk.block q h.lt hq (by simp)).trans h
theorem Bk.set {w : World} {g : Nat} {xs : Array Value} {t : TypeId} (h : Bk w g xs t) (j : Nat) (y : Value) : Bk (w.setCell ⟨g, j, none⟩ y) g (xs.setIfInBounds j y) t := heap_setCell_same w g j _ _ _ h
theorem Bk.fz {w : World} {g : Nat} {xs : Array Value} {t : TypeId} (h : Bk w g xs t) (j : Nat) : w.frozen? ⟨g, j, none⟩ = false := by
 have h2 : w.heap[g]? = some (.cells xs t (0, 0)) := h
 simp [World.frozen?, h2]
theorem below_kp {g : Nat} {u v w : World} (h : Below u.heap.size u v) (hk : Kp g none v w) (hg : u.heap.size ≤ g) : Below u.heap.size u w :=
 h.trans ⟨hk.os, hk.tape, hk.output, hk.size, fun k hk' => hk.block k (Nat.lt_of_lt_of_le hk' h.size) (by omega) (by simp)⟩
section
variable {w0 w w' : World} {l : List (Option Addr × Nat × Nat × Nat)} {bs : List (Nat × Array Value × TypeId)} {g : Nat} {xs xs' : Array Value} {t t' : TypeId}
theorem S14.turn (h : S14 w0 w l bs) (hm : (g, xs, t) ∈ bs) (hc : Cl xs) (hg : w0.heap.size ≤ g) (hk : Kp g none w w') (hb : Bk w' g xs' t') (bs' : List (Nat × Array Value × TypeId)) (hs : ∀ q ∈ bs', q ∈ bs ∧ q.1 ≠ g) : S14 w0 w' l ((g, xs', t') :: bs') := by
 refine ⟨below_kp h.bel hk hg, fun q hq => (Lim.bk (h.num q hq) (h.blk _ hm) hc (Nat.le_refl _) hk).more hk.size, fun q hq => ?_⟩
 rcases List.mem_cons.1 hq with rfl | hq
 ·exact hb
 ·exact (h.blk q (hs q hq).1).kp hk (hs q hq).2
theorem S14.more (h : S14 w0 w l bs) {A : Option Addr} {n c a : Nat} (hn : Num w w.heap.size A n c a) : S14 w0 w ((A, n, c, a) :: l) bs :=
 ⟨h.bel, fun q hq => by
  rcases List.mem_cons.1 hq with rfl | hq
  ·exact hn
  ·exact h.num q hq, h.blk⟩
end
theorem Cl.mk {l : List Value} (h : ∀ x ∈ l, NoLimb x) : Cl l.toArray := fun x hx => h x (by simpa using hx)
theorem cl_nil : ∀ x ∈ ([] : List Value), NoLimb x := fun x h => by cases h
theorem cl_cons {x : Value} {l : List Value} (h : NoLimb x) (hl : ∀ y ∈ l, NoLimb y) : ∀ y ∈ x :: l, NoLimb y := fun y hy => by
 rcases List.mem_cons.1 hy with rfl | hy
 ·exact h
 ·exact hl y hy
def Q9 (W : World) (v : Value) (e : Ending) (w' : World) : Prop := e = .returned v ∧ w' = W
def isK (L : List Tok) (a : Nat) (k : Int) : Bool := (L[a]?).any fun t => decide (t.1 = k)
theorem isK_get {L : List Tk4} {i : Nat} {k : Int} {t : Tk4} (h : L[i]? = some t) : isK (L.map tok) i k = decide (t.1 = k) := by unfold isK; rw [List.getElem?_map, h]; rfl
theorem isK_end {L : List Tk4} {i : Nat} {k : Int} (h : L.length ≤ i) : isK (L.map tok) i k = false := by unfold isK; rw [List.getElem?_eq_none (by rw [List.length_map]; exact h)]; rfl
theorem isW_get {L : List Tk4} {i : Nat} {x : List Nat} {t : Tk4} (h : L[i]? = some t) : isW (L.map tok) i x = (decide (t.1 = 10) && decide (bs9 t.2.1 = x)) := by unfold isW; rw [List.getElem?_map, h]; rfl
theorem isW_none {L : List Tk4} {i : Nat} {x : List Nat} (h : L.length ≤ i) : isW (L.map tok) i x = false := by unfold isW; rw [List.getElem?_eq_none (by rw [List.length_map]; exact h)]; rfl
section
variable {w : World} {B n c i : Nat} {A : Option Addr} {L : List Tk4}
theorem there_is {b : Bool} {a : Int} (hb : decide (0 ≤ a ∧ a ≤ (n : Int)) = b) : Calls Tryz.prog 19 #[.slice A n c, .int .i64 a] w (Q9 w (.bool b)) := by
 by_cases h0 : 0 ≤ a
 ·have d1 : decide (0 ≤ a) = true := decide_eq_true h0
  by_cases h1 : a ≤ (n : Int)
  ·have d2 : decide (a ≤ (n : Int)) = true := decide_eq_true h1
   have e : true = b := by rw [← hb]; exact (decide_eq_true ⟨h0, h1⟩).symm
   subst e
   clear hb
   go_enter Tryz.func19, Tryz.ntmps19
   go_wp2_with fail
   go_ret
   exact ⟨rfl, rfl⟩
  ·have d2 : decide (a ≤ (n : Int)) = false := decide_eq_false h1
   have e : false = b := by rw [← hb]; exact (decide_eq_false (fun q => h1 q.2)).symm
   subst e
   clear hb
   go_enter Tryz.func19, Tryz.ntmps19
   go_wp2_with fail
   go_ret
   exact ⟨rfl, rfl⟩
 ·have d1 : decide (0 ≤ a) = false := decide_eq_false h0
  have e : false = b := by rw [← hb]; exact (decide_eq_false (fun q => h0 q.1)).symm
  subst e
  clear hb
  go_enter Tryz.func19, Tryz.ntmps19
  go_wp2_with fail
  go_ret
  exact ⟨rfl, rfl⟩
theorem iskind_is (hr : RdK w B A n c L) (hn : n ≤ 1000) {k : Int} {b : Bool} (hb : isK (L.map tok) i k = b) : Calls Tryz.prog 20 #[.slice A n c, .int .i64 (i : Int), .int .i64 k] w (Q9 w (.bool b)) := by
 have hlen := hr.len
 rcases Nat.lt_or_ge i n with h | h
 ·obtain ⟨t, ht⟩ : ∃ t, L[i]? = some t := ⟨_, List.getElem?_eq_getElem (by omega)⟩
  obtain ⟨q, u0, rfl, h1, h2, h3, h4, -⟩ := hr.at_ ht
  obtain ⟨k1, T, l, m⟩ := t
  have a0 := (tok_cells hr ht).1
  have e : (k1 == k) = b := by rw [← hb, isK_get ht, Bool.eq_iff_iff, beq_iff_eq, decide_eq_true_iff]
  clear hr ht hb hlen
  have d1 : decide ((i : Int) < (n : Int)) = true := decide_eq_true (by omega)
  have d3 : decide (i < n) = true := decide_eq_true h
  have d4 : (0 : Int) ≤ (i : Int) := by omega
  have d5 : (i : Int) < (n : Int) := by omega
  go_enter Tryz.func20, Tryz.ntmps20
  go_wp2_with fail
  go_ret
  exact ⟨rfl, rfl⟩
 ·have e : false = b := by rw [← hb]; exact (isK_end (by omega)).symm
  subst e
  have d1 : decide ((i : Int) < (n : Int)) = false := decide_eq_false (by omega)
  have d3 : decide (i < n) = false := decide_eq_false (by omega)
  clear hr hb hlen
  go_enter Tryz.func20, Tryz.ntmps20
  go_wp2_with fail
  go_ret
  exact ⟨rfl, rfl⟩
theorem issign_is (hr : RdK w B A n c L) (hn : n ≤ 1000) (S : ByteArray) {x : List Nat} (hS : bs9 S = x) {b : Bool} (hb : isW (L.map tok) i x = b) : Calls Tryz.prog 25 #[.slice A n c, .int .i64 (i : Int), .string S] w (Q9 w (.bool b)) := by
 have hlen := hr.len
 obtain ⟨b2, hb2⟩ : ∃ b2, isK (L.map tok) i 10 = b2 := ⟨_, rfl⟩
 have K := iskind_is hr hn hb2
 have KH := Lib.hid K
 clear K
 rcases Nat.lt_or_ge i n with h | h
 ·obtain ⟨t, ht⟩ : ∃ t, L[i]? = some t := ⟨_, List.getElem?_eq_getElem (by omega)⟩
  obtain ⟨q, u0, rfl, h1, h2, h3, h4, -⟩ := hr.at_ ht
  obtain ⟨k1, T, l, m⟩ := t
  have a1 := (tok_cells hr ht).2.1
  have e2 : decide (k1 = 10) = b2 := by rw [← hb2, isK_get ht]
  have e : (b2 && (T.toList == S.toList)) = b := by rw [← hb, isW_get ht, ← e2, txt_eq, hS]
  clear hr ht hb hlen e2 hS
  have d3 : decide (i < n) = true := decide_eq_true h
  have d4 : (0 : Int) ≤ (i : Int) := by omega
  have d5 : (i : Int) < (n : Int) := by omega
  cases b2 with
  | true =>
   rw [Bool.true_and] at e
   go_enter Tryz.func25, Tryz.ntmps25
   go_wp2_with fail
   refine KH.out.mono ?_; rintro e1 w1 ⟨rfl, hw⟩
   obtain rfl := hw.symm
   go_wp2_with fail
   go_ret
   exact ⟨rfl, rfl⟩
  | false =>
   rw [Bool.false_and] at e
   subst e
   go_enter Tryz.func25, Tryz.ntmps25
   go_wp2_with fail
   refine KH.out.mono ?_; rintro e1 w1 ⟨rfl, hw⟩
   obtain rfl := hw.symm
   go_wp2_with fail
   go_ret
   exact ⟨rfl, rfl⟩
 ·have e : false = b := by rw [← hb]; exact (isW_none (by omega)).symm
  have e2 : false = b2 := by rw [← hb2]; exact (isK_end (by omega)).symm
  subst e; subst e2
  clear hr hb hlen hb2 hS
  go_enter Tryz.func25, Tryz.ntmps25
  go_wp2_with fail
  refine KH.out.mono ?_; rintro e1 w1 ⟨rfl, hw⟩
  obtain rfl := hw.symm
  go_wp2_with fail
  go_ret
  exact ⟨rfl, rfl⟩
theorem missing_is (hi : i ≤ n) {x : Nat} (hx : (if i < n then 3 else 2) = x) : Calls Tryz.prog 36 #[.slice A n c, .int .i64 (i : Int)] w (Q9 w (.int .i64 (x : Int))) := by
 by_cases h : i = n
 ·have d : ((i : Int) == (n : Int)) = true := by rw [beq_iff_eq]; omega
  obtain rfl : 2 = x := by rw [← hx, if_neg (by omega)]
  clear hx
  go_enter Tryz.func36, Tryz.ntmps36
  go_wp2_with fail
  go_ret
  exact ⟨rfl, rfl⟩
 ·have d : ((i : Int) == (n : Int)) = false := by rw [beq_eq_false_iff_ne]; omega
  obtain rfl : 3 = x := by rw [← hx, if_pos (by omega)]
  clear hx
  go_enter Tryz.func36, Tryz.ntmps36
  go_wp2_with fail
  go_ret
  exact ⟨rfl, rfl⟩
end
section
variable {w0 w : World} {l : List (Option Addr × Nat × Nat × Nat)} {bs : List (Nat × Array Value × TypeId)} {g : Nat} {t : TypeId}
theorem S14.atv {xs : Array Value} {y : Value} (h : Hid (S14 w0 w l bs)) (hm : (g, xs, t) ∈ bs) (j : Nat) (hj : xs[j]? = some y) : w.cell? ⟨g, j, none⟩ = some y := (S14.at_ h hm j).trans hj
theorem S14.lt {xs : Array Value} (h : S14 w0 w l bs) (hm : (g, xs, t) ∈ bs) : g < w.heap.size := (h.blk _ hm).lt
theorem S14.all3 {x0 x1 x2 : Value} (h : Hid (S14 w0 w l bs)) (hm : (g, #[x0, x1, x2], t) ∈ bs) : w.cell? ⟨g, 0, none⟩ = some x0 ∧ w.cell? ⟨g, 1, none⟩ = some x1 ∧ w.cell? ⟨g, 2, none⟩ = some x2 ∧ w.frozen? ⟨g, 0, none⟩ = false ∧ w.frozen? ⟨g, 1, none⟩ = false ∧ w.frozen? ⟨g, 2, none⟩ = false ∧ g < w.heap.size :=
 ⟨S14.atv h hm 0 rfl, S14.atv h hm 1 rfl, S14.atv h hm 2 rfl, (h.out.blk _ hm).fz 0, (h.out.blk _ hm).fz 1, (h.out.blk _ hm).fz 2, (h.out.blk _ hm).lt⟩
theorem S14.all4 {x0 x1 x2 x3 : Value} (h : Hid (S14 w0 w l bs)) (hm : (g, #[x0, x1, x2, x3], t) ∈ bs) : w.cell? ⟨g, 0, none⟩ = some x0 ∧ w.cell? ⟨g, 1, none⟩ = some x1 ∧ w.cell? ⟨g, 2, none⟩ = some x2 ∧ w.cell? ⟨g, 3, none⟩ = some x3 ∧ w.frozen? ⟨g, 0, none⟩ = false ∧ w.frozen? ⟨g, 1, none⟩ = false ∧ w.frozen? ⟨g, 2, none⟩ = false ∧ w.frozen? ⟨g, 3, none⟩ = false ∧ g < w.heap.size :=
 ⟨S14.atv h hm 0 rfl, S14.atv h hm 1 rfl, S14.atv h hm 2 rfl, S14.atv h hm 3 rfl, (h.out.blk _ hm).fz 0, (h.out.blk _ hm).fz 1, (h.out.blk _ hm).fz 2, (h.out.blk _ hm).fz 3, (h.out.blk _ hm).lt⟩
theorem S14.fill4 {x0 x1 x2 x3 : Value} (h : S14 w0 w l bs) (hm : (g, #[x0, x1, x2, x3], t) ∈ bs) (hc : Cl #[x0, x1, x2, x3]) (hg : w0.heap.size ≤ g) (bs' : List (Nat × Array Value × TypeId)) (hs : ∀ q ∈ bs', q ∈ bs ∧ q.1 ≠ g) (y0 y1 y2 y3 : Value) : S14 w0 (World.setCell (World.setCell (World.setCell (World.setCell w ⟨g, 0, none⟩ y0) ⟨g, 1, none⟩ y1) ⟨g, 2, none⟩ y2) ⟨g, 3, none⟩ y3) l ((g, #[y0, y1, y2, y3], t) :: bs') := by
 have b0 := h.blk _ hm
 have b1 : Bk (World.setCell w ⟨g, 0, none⟩ y0) g #[y0, x1, x2, x3] t := b0.set 0 y0
 have b2 : Bk (World.setCell (World.setCell w ⟨g, 0, none⟩ y0) ⟨g, 1, none⟩ y1) g #[y0, y1, x2, x3] t := b1.set 1 y1
 have b3 : Bk (World.setCell (World.setCell (World.setCell w ⟨g, 0, none⟩ y0) ⟨g, 1, none⟩ y1) ⟨g, 2, none⟩ y2) g #[y0, y1, y2, x3] t := b2.set 2 y2
 have b4 : Bk (World.setCell (World.setCell (World.setCell (World.setCell w ⟨g, 0, none⟩ y0) ⟨g, 1, none⟩ y1) ⟨g, 2, none⟩ y2) ⟨g, 3, none⟩ y3) g #[y0, y1, y2, y3] t := b3.set 3 y3
 exact h.turn hm hc hg (kp_trans (kp_trans (kp_trans (kp_set w g 0 y0) (kp_set _ g 1 y1)) (kp_set _ g 2 y2)) (kp_set _ g 3 y3)) b4 bs' hs
theorem S14.all5 {x0 x1 x2 x3 x4 : Value} (h : Hid (S14 w0 w l bs)) (hm : (g, #[x0, x1, x2, x3, x4], t) ∈ bs) : w.cell? ⟨g, 0, none⟩ = some x0 ∧ w.cell? ⟨g, 1, none⟩ = some x1 ∧ w.cell? ⟨g, 2, none⟩ = some x2 ∧ w.cell? ⟨g, 3, none⟩ = some x3 ∧ w.cell? ⟨g, 4, none⟩ = some x4 ∧ w.frozen? ⟨g, 0, none⟩ = false ∧ w.frozen? ⟨g, 1, none⟩ = false ∧ w.frozen? ⟨g, 2, none⟩ = false ∧ w.frozen? ⟨g, 3, none⟩ = false ∧ w.frozen? ⟨g, 4, none⟩ = false ∧ g < w.heap.size :=
 ⟨S14.atv h hm 0 rfl, S14.atv h hm 1 rfl, S14.atv h hm 2 rfl, S14.atv h hm 3 rfl, S14.atv h hm 4 rfl, (h.out.blk _ hm).fz 0, (h.out.blk _ hm).fz 1, (h.out.blk _ hm).fz 2, (h.out.blk _ hm).fz 3, (h.out.blk _ hm).fz 4, (h.out.blk _ hm).lt⟩
theorem S14.fill5 {x0 x1 x2 x3 x4 : Value} (h : S14 w0 w l bs) (hm : (g, #[x0, x1, x2, x3, x4], t) ∈ bs) (hc : Cl #[x0, x1, x2, x3, x4]) (hg : w0.heap.size ≤ g) (bs' : List (Nat × Array Value × TypeId)) (hs : ∀ q ∈ bs', q ∈ bs ∧ q.1 ≠ g) (y0 y1 y2 y3 y4 : Value) : S14 w0 (World.setCell (World.setCell (World.setCell (World.setCell (World.setCell w ⟨g, 0, none⟩ y0) ⟨g, 1, none⟩ y1) ⟨g, 2, none⟩ y2) ⟨g, 3, none⟩ y3) ⟨g, 4, none⟩ y4) l ((g, #[y0, y1, y2, y3, y4], t) :: bs') := by
 have b0 := h.blk _ hm
 have b1 : Bk (World.setCell w ⟨g, 0, none⟩ y0) g #[y0, x1, x2, x3, x4] t := b0.set 0 y0
 have b2 : Bk (World.setCell (World.setCell w ⟨g, 0, none⟩ y0) ⟨g, 1, none⟩ y1) g #[y0, y1, x2, x3, x4] t := b1.set 1 y1
 have b3 : Bk (World.setCell (World.setCell (World.setCell w ⟨g, 0, none⟩ y0) ⟨g, 1, none⟩ y1) ⟨g, 2, none⟩ y2) g #[y0, y1, y2, x3, x4] t := b2.set 2 y2
 have b4 : Bk (World.setCell (World.setCell (World.setCell (World.setCell w ⟨g, 0, none⟩ y0) ⟨g, 1, none⟩ y1) ⟨g, 2, none⟩ y2) ⟨g, 3, none⟩ y3) g #[y0, y1, y2, y3, x4] t := b3.set 3 y3
 have b5 : Bk (World.setCell (World.setCell (World.setCell (World.setCell (World.setCell w ⟨g, 0, none⟩ y0) ⟨g, 1, none⟩ y1) ⟨g, 2, none⟩ y2) ⟨g, 3, none⟩ y3) ⟨g, 4, none⟩ y4) g #[y0, y1, y2, y3, y4] t := b4.set 4 y4
 exact h.turn hm hc hg (kp_trans (kp_trans (kp_trans (kp_trans (kp_set w g 0 y0) (kp_set _ g 1 y1)) (kp_set _ g 2 y2)) (kp_set _ g 3 y3)) (kp_set _ g 4 y4)) b5 bs' hs
theorem S14.all7 {x0 x1 x2 x3 x4 x5 x6 : Value} (h : Hid (S14 w0 w l bs)) (hm : (g, #[x0, x1, x2, x3, x4, x5, x6], t) ∈ bs) : w.cell? ⟨g, 0, none⟩ = some x0 ∧ w.cell? ⟨g, 1, none⟩ = some x1 ∧ w.cell? ⟨g, 2, none⟩ = some x2 ∧ w.cell? ⟨g, 3, none⟩ = some x3 ∧ w.cell? ⟨g, 4, none⟩ = some x4 ∧ w.cell? ⟨g, 5, none⟩ = some x5 ∧ w.cell? ⟨g, 6, none⟩ = some x6 ∧ w.frozen? ⟨g, 0, none⟩ = false ∧ w.frozen? ⟨g, 1, none⟩ = false ∧ w.frozen? ⟨g, 2, none⟩ = false ∧ w.frozen? ⟨g, 3, none⟩ = false ∧ w.frozen? ⟨g, 4, none⟩ = false ∧ w.frozen? ⟨g, 5, none⟩ = false ∧ w.frozen? ⟨g, 6, none⟩ = false ∧ g < w.heap.size :=
 ⟨S14.atv h hm 0 rfl, S14.atv h hm 1 rfl, S14.atv h hm 2 rfl, S14.atv h hm 3 rfl, S14.atv h hm 4 rfl, S14.atv h hm 5 rfl, S14.atv h hm 6 rfl, (h.out.blk _ hm).fz 0, (h.out.blk _ hm).fz 1, (h.out.blk _ hm).fz 2, (h.out.blk _ hm).fz 3, (h.out.blk _ hm).fz 4, (h.out.blk _ hm).fz 5, (h.out.blk _ hm).fz 6, (h.out.blk _ hm).lt⟩
theorem S14.fill7 {x0 x1 x2 x3 x4 x5 x6 : Value} (h : S14 w0 w l bs) (hm : (g, #[x0, x1, x2, x3, x4, x5, x6], t) ∈ bs) (hc : Cl #[x0, x1, x2, x3, x4, x5, x6]) (hg : w0.heap.size ≤ g) (bs' : List (Nat × Array Value × TypeId)) (hs : ∀ q ∈ bs', q ∈ bs ∧ q.1 ≠ g) (y0 y1 y2 y3 y4 y5 y6 : Value) : S14 w0 (World.setCell (World.setCell (World.setCell (World.setCell (World.setCell (World.setCell (World.setCell w ⟨g, 0, none⟩ y0) ⟨g, 1, none⟩ y1) ⟨g, 2, none⟩ y2) ⟨g, 3, none⟩ y3) ⟨g, 4, none⟩ y4) ⟨g, 5, none⟩ y5) ⟨g, 6, none⟩ y6) l ((g, #[y0, y1, y2, y3, y4, y5, y6], t) :: bs') := by
 have b0 := h.blk _ hm
 have b1 : Bk (World.setCell w ⟨g, 0, none⟩ y0) g #[y0, x1, x2, x3, x4, x5, x6] t := b0.set 0 y0
 have b2 : Bk (World.setCell (World.setCell w ⟨g, 0, none⟩ y0) ⟨g, 1, none⟩ y1) g #[y0, y1, x2, x3, x4, x5, x6] t := b1.set 1 y1
 have b3 : Bk (World.setCell (World.setCell (World.setCell w ⟨g, 0, none⟩ y0) ⟨g, 1, none⟩ y1) ⟨g, 2, none⟩ y2) g #[y0, y1, y2, x3, x4, x5, x6] t := b2.set 2 y2
 have b4 : Bk (World.setCell (World.setCell (World.setCell (World.setCell w ⟨g, 0, none⟩ y0) ⟨g, 1, none⟩ y1) ⟨g, 2, none⟩ y2) ⟨g, 3, none⟩ y3) g #[y0, y1, y2, y3, x4, x5, x6] t := b3.set 3 y3
 have b5 : Bk (World.setCell (World.setCell (World.setCell (World.setCell (World.setCell w ⟨g, 0, none⟩ y0) ⟨g, 1, none⟩ y1) ⟨g, 2, none⟩ y2) ⟨g, 3, none⟩ y3) ⟨g, 4, none⟩ y4) g #[y0, y1, y2, y3, y4, x5, x6] t := b4.set 4 y4
 have b6 : Bk (World.setCell (World.setCell (World.setCell (World.setCell (World.setCell (World.setCell w ⟨g, 0, none⟩ y0) ⟨g, 1, none⟩ y1) ⟨g, 2, none⟩ y2) ⟨g, 3, none⟩ y3) ⟨g, 4, none⟩ y4) ⟨g, 5, none⟩ y5) g #[y0, y1, y2, y3, y4, y5, x6] t := b5.set 5 y5
 have b7 : Bk (World.setCell (World.setCell (World.setCell (World.setCell (World.setCell (World.setCell (World.setCell w ⟨g, 0, none⟩ y0) ⟨g, 1, none⟩ y1) ⟨g, 2, none⟩ y2) ⟨g, 3, none⟩ y3) ⟨g, 4, none⟩ y4) ⟨g, 5, none⟩ y5) ⟨g, 6, none⟩ y6) g #[y0, y1, y2, y3, y4, y5, y6] t := b6.set 6 y6
 exact h.turn hm hc hg (kp_trans (kp_trans (kp_trans (kp_trans (kp_trans (kp_trans (kp_set w g 0 y0) (kp_set _ g 1 y1)) (kp_set _ g 2 y2)) (kp_set _ g 3 y3)) (kp_set _ g 4 y4)) (kp_set _ g 5 y5)) (kp_set _ g 6 y6)) b7 bs' hs
theorem S14.all11 {x0 x1 x2 x3 x4 x5 x6 x7 x8 x9 x10 : Value} (h : Hid (S14 w0 w l bs)) (hm : (g, #[x0, x1, x2, x3, x4, x5, x6, x7, x8, x9, x10], t) ∈ bs) : w.cell? ⟨g, 0, none⟩ = some x0 ∧ w.cell? ⟨g, 1, none⟩ = some x1 ∧ w.cell? ⟨g, 2, none⟩ = some x2 ∧ w.cell? ⟨g, 3, none⟩ = some x3 ∧ w.cell? ⟨g, 4, none⟩ = some x4 ∧ w.cell? ⟨g, 5, none⟩ = some x5 ∧ w.cell? ⟨g, 6, none⟩ = some x6 ∧ w.cell? ⟨g, 7, none⟩ = some x7 ∧ w.cell? ⟨g, 8, none⟩ = some x8 ∧ w.cell? ⟨g, 9, none⟩ = some x9 ∧ w.cell? ⟨g, 10, none⟩ = some x10 ∧ w.frozen? ⟨g, 0, none⟩ = false ∧ w.frozen? ⟨g, 1, none⟩ = false ∧ w.frozen? ⟨g, 2, none⟩ = false ∧ w.frozen? ⟨g, 3, none⟩ = false ∧ w.frozen? ⟨g, 4, none⟩ = false ∧ w.frozen? ⟨g, 5, none⟩ = false ∧ w.frozen? ⟨g, 6, none⟩ = false ∧ w.frozen? ⟨g, 7, none⟩ = false ∧ w.frozen? ⟨g, 8, none⟩ = false ∧ w.frozen? ⟨g, 9, none⟩ = false ∧ w.frozen? ⟨g, 10, none⟩ = false ∧ g < w.heap.size :=
 ⟨S14.atv h hm 0 rfl, S14.atv h hm 1 rfl, S14.atv h hm 2 rfl, S14.atv h hm 3 rfl, S14.atv h hm 4 rfl, S14.atv h hm 5 rfl, S14.atv h hm 6 rfl, S14.atv h hm 7 rfl, S14.atv h hm 8 rfl, S14.atv h hm 9 rfl, S14.atv h hm 10 rfl, (h.out.blk _ hm).fz 0, (h.out.blk _ hm).fz 1, (h.out.blk _ hm).fz 2, (h.out.blk _ hm).fz 3, (h.out.blk _ hm).fz 4, (h.out.blk _ hm).fz 5, (h.out.blk _ hm).fz 6, (h.out.blk _ hm).fz 7, (h.out.blk _ hm).fz 8, (h.out.blk _ hm).fz 9, (h.out.blk _ hm).fz 10, (h.out.blk _ hm).lt⟩
theorem S14.fill11 {x0 x1 x2 x3 x4 x5 x6 x7 x8 x9 x10 : Value} (h : S14 w0 w l bs) (hm : (g, #[x0, x1, x2, x3, x4, x5, x6, x7, x8, x9, x10], t) ∈ bs) (hc : Cl #[x0, x1, x2, x3, x4, x5, x6, x7, x8, x9, x10]) (hg : w0.heap.size ≤ g) (bs' : List (Nat × Array Value × TypeId)) (hs : ∀ q ∈ bs', q ∈ bs ∧ q.1 ≠ g) (y0 y1 y2 y3 y4 y5 y6 y7 y8 y9 y10 : Value) : S14 w0 (World.setCell (World.setCell (World.setCell (World.setCell (World.setCell (World.setCell (World.setCell (World.setCell (World.setCell (World.setCell (World.setCell w ⟨g, 0, none⟩ y0) ⟨g, 1, none⟩ y1) ⟨g, 2, none⟩ y2) ⟨g, 3, none⟩ y3) ⟨g, 4, none⟩ y4) ⟨g, 5, none⟩ y5) ⟨g, 6, none⟩ y6) ⟨g, 7, none⟩ y7) ⟨g, 8, none⟩ y8) ⟨g, 9, none⟩ y9) ⟨g, 10, none⟩ y10) l ((g, #[y0, y1, y2, y3, y4, y5, y6, y7, y8, y9, y10], t) :: bs') := by
 have b0 := h.blk _ hm
 have b1 : Bk (World.setCell w ⟨g, 0, none⟩ y0) g #[y0, x1, x2, x3, x4, x5, x6, x7, x8, x9, x10] t := b0.set 0 y0
 have b2 : Bk (World.setCell (World.setCell w ⟨g, 0, none⟩ y0) ⟨g, 1, none⟩ y1) g #[y0, y1, x2, x3, x4, x5, x6, x7, x8, x9, x10] t := b1.set 1 y1
 have b3 : Bk (World.setCell (World.setCell (World.setCell w ⟨g, 0, none⟩ y0) ⟨g, 1, none⟩ y1) ⟨g, 2, none⟩ y2) g #[y0, y1, y2, x3, x4, x5, x6, x7, x8, x9, x10] t := b2.set 2 y2
 have b4 : Bk (World.setCell (World.setCell (World.setCell (World.setCell w ⟨g, 0, none⟩ y0) ⟨g, 1, none⟩ y1) ⟨g, 2, none⟩ y2) ⟨g, 3, none⟩ y3) g #[y0, y1, y2, y3, x4, x5, x6, x7, x8, x9, x10] t := b3.set 3 y3
 have b5 : Bk (World.setCell (World.setCell (World.setCell (World.setCell (World.setCell w ⟨g, 0, none⟩ y0) ⟨g, 1, none⟩ y1) ⟨g, 2, none⟩ y2) ⟨g, 3, none⟩ y3) ⟨g, 4, none⟩ y4) g #[y0, y1, y2, y3, y4, x5, x6, x7, x8, x9, x10] t := b4.set 4 y4
 have b6 : Bk (World.setCell (World.setCell (World.setCell (World.setCell (World.setCell (World.setCell w ⟨g, 0, none⟩ y0) ⟨g, 1, none⟩ y1) ⟨g, 2, none⟩ y2) ⟨g, 3, none⟩ y3) ⟨g, 4, none⟩ y4) ⟨g, 5, none⟩ y5) g #[y0, y1, y2, y3, y4, y5, x6, x7, x8, x9, x10] t := b5.set 5 y5
 have b7 : Bk (World.setCell (World.setCell (World.setCell (World.setCell (World.setCell (World.setCell (World.setCell w ⟨g, 0, none⟩ y0) ⟨g, 1, none⟩ y1) ⟨g, 2, none⟩ y2) ⟨g, 3, none⟩ y3) ⟨g, 4, none⟩ y4) ⟨g, 5, none⟩ y5) ⟨g, 6, none⟩ y6) g #[y0, y1, y2, y3, y4, y5, y6, x7, x8, x9, x10] t := b6.set 6 y6
 have b8 : Bk (World.setCell (World.setCell (World.setCell (World.setCell (World.setCell (World.setCell (World.setCell (World.setCell w ⟨g, 0, none⟩ y0) ⟨g, 1, none⟩ y1) ⟨g, 2, none⟩ y2) ⟨g, 3, none⟩ y3) ⟨g, 4, none⟩ y4) ⟨g, 5, none⟩ y5) ⟨g, 6, none⟩ y6) ⟨g, 7, none⟩ y7) g #[y0, y1, y2, y3, y4, y5, y6, y7, x8, x9, x10] t := b7.set 7 y7
 have b9 : Bk (World.setCell (World.setCell (World.setCell (World.setCell (World.setCell (World.setCell (World.setCell (World.setCell (World.setCell w ⟨g, 0, none⟩ y0) ⟨g, 1, none⟩ y1) ⟨g, 2, none⟩ y2) ⟨g, 3, none⟩ y3) ⟨g, 4, none⟩ y4) ⟨g, 5, none⟩ y5) ⟨g, 6, none⟩ y6) ⟨g, 7, none⟩ y7) ⟨g, 8, none⟩ y8) g #[y0, y1, y2, y3, y4, y5, y6, y7, y8, x9, x10] t := b8.set 8 y8
 have b10 : Bk (World.setCell (World.setCell (World.setCell (World.setCell (World.setCell (World.setCell (World.setCell (World.setCell (World.setCell (World.setCell w ⟨g, 0, none⟩ y0) ⟨g, 1, none⟩ y1) ⟨g, 2, none⟩ y2) ⟨g, 3, none⟩ y3) ⟨g, 4, none⟩ y4) ⟨g, 5, none⟩ y5) ⟨g, 6, none⟩ y6) ⟨g, 7, none⟩ y7) ⟨g, 8, none⟩ y8) ⟨g, 9, none⟩ y9) g #[y0, y1, y2, y3, y4, y5, y6, y7, y8, y9, x10] t := b9.set 9 y9
 have b11 : Bk (World.setCell (World.setCell (World.setCell (World.setCell (World.setCell (World.setCell (World.setCell (World.setCell (World.setCell (World.setCell (World.setCell w ⟨g, 0, none⟩ y0) ⟨g, 1, none⟩ y1) ⟨g, 2, none⟩ y2) ⟨g, 3, none⟩ y3) ⟨g, 4, none⟩ y4) ⟨g, 5, none⟩ y5) ⟨g, 6, none⟩ y6) ⟨g, 7, none⟩ y7) ⟨g, 8, none⟩ y8) ⟨g, 9, none⟩ y9) ⟨g, 10, none⟩ y10) g #[y0, y1, y2, y3, y4, y5, y6, y7, y8, y9, y10] t := b10.set 10 y10
 exact h.turn hm hc hg (kp_trans (kp_trans (kp_trans (kp_trans (kp_trans (kp_trans (kp_trans (kp_trans (kp_trans (kp_trans (kp_set w g 0 y0) (kp_set _ g 1 y1)) (kp_set _ g 2 y2)) (kp_set _ g 3 y3)) (kp_set _ g 4 y4)) (kp_set _ g 5 y5)) (kp_set _ g 6 y6)) (kp_set _ g 7 y7)) (kp_set _ g 8 y8)) (kp_set _ g 9 y9)) (kp_set _ g 10 y10)) b11 bs' hs
end
section
variable {L : List Tok} {a b k : Nat} {x : Int} {t : Tok}
theorem amt_err {z : Nat} (h : SUM L 0 a = .inl (z, b)) : amt L a = .inl (z, b) := by unfold amt; rw [h]
theorem amt_cur (h : SUM L 0 a = .inr (x, k, b)) (ht : L[b]? = some t) (h3 : t.1 = 3) : amt L a = .inr (x, k, t.2, b + 1) := by
 unfold amt; rw [h]; dsimp only; rw [ht]; dsimp only; rw [if_pos h3]
theorem amt_not (h : SUM L 0 a = .inr (x, k, b)) (hk : isK L b 3 = false) : amt L a = .inl (if b < L.length then 3 else 2, b) := by
 unfold amt; rw [h]; dsimp only
 unfold isK at hk
 cases ht : L[b]? with
 | none => rw [if_neg (by have := List.getElem?_eq_none_iff.1 ht; omega)]
 | some t =>
  rw [ht] at hk
  have h3 : ¬ t.1 = 3 := of_decide_eq_false hk
  dsimp only
  rw [if_neg h3, if_pos (List.getElem?_eq_some_iff.1 ht).1]
theorem evl_at (ha : a ≤ L.length) : ∃ (x : Int) (k b e : Nat), evl L (a : Int) = (x, k, (b : Int), e) ∧ ((e ≠ 0 ∧ amt L a = .inl (e, b)) ∨ (e = 0 ∧ b ≤ L.length ∧ SUM L 0 a = .inr (x, k, b))) := by
 have e : evl L (a : Int) = match SUM L 0 a with | .inl (z, b) => (0, 0, (b : Int), z) | .inr (x, k, b) => (x, k, (b : Int), 0) := by
  unfold evl; rw [if_neg (by omega), Int.toNat_natCast]; rfl
 rw [e]
 cases hS : SUM L 0 a with
 | inl q => obtain ⟨z, b⟩ := q; exact ⟨0, 0, b, z, rfl, .inl ⟨SUM_bad hS, amt_err hS⟩⟩
 | inr q => obtain ⟨x, k, b⟩ := q; exact ⟨x, k, b, 0, rfl, .inr ⟨rfl, (SUM_lt hS rfl).2, rfl⟩⟩
end
theorem amount_at {w : World} {B n c i : Nat} {A : Option Addr} {L : List Tk4} {G : Nat → Nat → Int → Nat → Prop} (hr : RdK w B A n c L) (hB : B ≤ w.heap.size) (hn : n ≤ 400) (hL : Siz (L.map tok) G) (hok : Ok12 w) (hi : i ≤ n) {v : VA} {p e : Nat} (h : resA (amt (L.map tok) i) = (v, p, e)) : Calls Tryz.prog 17 #[.slice A n c, .int .i64 (i : Int)] w (RvA w v p e) := by
 have hlen := hr.len
 have RD : Hid (∀ {W : World}, Below w.heap.size w W → RdK W B A n c L) := fun hb => hr.on hB hb
 have OK : Hid (∀ {W : World}, Below w.heap.size w W → Ok12 W) := fun hb => okw12 hok hb
 have E := Lib.hid (S14.start w)
 obtain ⟨x9, k9, b9, e9, hV, hO⟩ := evl_at (L := L.map tok) (a := i) (by rw [List.length_map]; omega)
 have PE : Hid (∀ {W : World}, Below w.heap.size w W → Calls Tryz.prog 35 #[.slice A n c, .int .i64 (i : Int)] W (RetE W (x9, k9, (b9 : Int), e9))) := fun hb => by
  have q := peval_ok (RD.out hb) (Nat.le_trans hB hb.size) hn hL hi (OK.out hb).2.1
  rw [hV] at q; exact q
 have HO := Lib.hid hO
 have H := Lib.hid h
 have HB := Lib.hid hB
 have HLEN := Lib.hid hlen
 clear hV hO h hr hok hlen hB
 go_enter Tryz.func17, Tryz.ntmps17
 go_wp2_with fail
 replace E := Lib.hid (E.out.lay #[.bool false, .slice none 0 0, .int .i64 0, .string ⟨#[]⟩] 56 (g := w.heap.size) (by simp))
 generalize hW : World.alloc w _ = W1 at E ⊢
 clear hW
 refine (PE.out E.out.bel).mono ?_; rintro e1 w2 ⟨A9, n9, c9, rfl, hnum, hb⟩
 replace E := Lib.hid (E.out.push hb hnum); clear hb hnum
 rcases HO.out with ⟨he, ha⟩ | ⟨he, hb9, hS⟩
 ·have de : ((e9 : Int) != 0) = true := by rw [bne_iff_ne]; omega
  have HA := Lib.hid ha
  clear ha he
  obtain ⟨r0, r1, r2, r3, rf0, rf1, rf2, rf3, rlt⟩ := S14.all4 (g := w.heap.size) (t := 56) (x0 := .bool false) (x1 := .slice none 0 0) (x2 := .int .i64 0) (x3 := .string ⟨#[]⟩) E (by simp)
  go_wp2_with fail
  clear r0 r1 r2 r3 rf0 rf1 rf2 rf3 rlt
  have EF := Lib.hid ((E.out.fill4 (g := w.heap.size) (t := 56) (x0 := .bool false) (x1 := .slice none 0 0) (x2 := .int .i64 0) (x3 := .string ⟨#[]⟩) (by simp) (Cl.mk (cl_cons (noLimb_bool _) (cl_cons (noLimb_slice _ _ _) (cl_cons (noLimb_int _) (cl_cons (noLimb_str _) cl_nil))))) (by first | exact Nat.le_refl _ | omega) [] (fun q hq => by cases hq) (.bool false) (.slice none 0 0) (.int .i64 0) (.string ⟨#[]⟩)).lay #[.bool (ngB x9), .slice A9 n9 c9, .int .i64 (k9 : Int)] 28 (g := w2.heap.size) (by simp))
  obtain ⟨r0, r1, r2, r3, -, -, -, -, -⟩ := S14.all4 (g := w.heap.size) (t := 56) (x0 := .bool false) (x1 := .slice none 0 0) (x2 := .int .i64 0) (x3 := .string ⟨#[]⟩) EF (by simp)
  exact bodyPost_ret (v := .tuple #[.agg #[.bool false, .slice none 0 0, .int .i64 0, .string ⟨#[]⟩], .int .i64 (b9 : Int), .int .i64 (e9 : Int)]) (by simp [results, Tryz.results17, go_sem, r0, r1, r2, r3]) rfl (by have q := H.out; rw [HA.out] at q; cases q; exact ⟨none, 0, 0, rfl, num_zero _ _, EF.out.bel⟩)
 ·have de : ((e9 : Int) != 0) = false := by rw [he]; rfl
  have HS := Lib.hid hS
  have hbn : b9 ≤ n := by rw [List.length_map] at hb9; have := HLEN.out; omega
  clear hS he hb9
  go_wp2_with fail
  have hlt := E.out.lt (g := w.heap.size) (xs := #[.bool false, .slice none 0 0, .int .i64 0, .string ⟨#[]⟩]) (t := 56) (by simp)
  replace E := Lib.hid (E.out.lay #[.bool (ngB x9), .slice A9 n9 c9, .int .i64 (k9 : Int)] 28 (g := w2.heap.size) (by simp))
  generalize hW : World.alloc w2 _ = W3 at E ⊢
  clear hW
  obtain ⟨g2, hg2⟩ : ∃ g, w2.heap.size = g := ⟨_, rfl⟩
  rw [hg2] at E hlt ⊢
  clear hg2
  obtain ⟨b2, hb2⟩ : ∃ b2, isK (L.map tok) b9 3 = b2 := ⟨_, rfl⟩
  refine (iskind_is (RD.out E.out.bel) (by omega) hb2).mono ?_; rintro e1 w3 ⟨rfl, hw⟩
  obtain rfl := hw.symm
  clear hw
  cases b2 with
  | true =>
   obtain ⟨t, ht⟩ : ∃ t, L[b9]? = some t := by
    cases ht : L[b9]? with
    | none => rw [isK_end (List.getElem?_eq_none_iff.1 ht)] at hb2; cases hb2
    | some t => exact ⟨t, rfl⟩
   have h3 : t.1 = 3 := by rw [isK_get ht] at hb2; exact of_decide_eq_true hb2
   obtain ⟨qq, uu, rfl, -, -, hq, hbl, a0, a1, a2, a3⟩ := (RD.out E.out.bel).at_ ht
   obtain ⟨k, T, l, m⟩ := t
   have HA : Hid (amt (L.map tok) i = .inr (x9, k9, T, b9 + 1)) := amt_cur (t := (k, T)) HS.out (by rw [List.getElem?_map, ht]; rfl) h3
   have hqs : qq < W3.heap.size := by have := E.out.bel.size; have := HB.out; omega
   clear hb2 h3 ht
   have d3 : decide (b9 < n) = true := decide_eq_true hbl
   have d4 : (0 : Int) ≤ (b9 : Int) := by omega
   have d5 : (b9 : Int) < (n : Int) := by omega
   obtain ⟨b10, hb10⟩ : ∃ x, b9 + 1 = x := ⟨_, rfl⟩
   have ei : (b9 : Int) + 1 = (b10 : Int) := by omega
   rw [hb10] at HA
   clear hb10
   obtain ⟨r0, r1, r2, r3, rf0, rf1, rf2, rf3, rlt⟩ := S14.all4 (g := w.heap.size) (t := 56) (x0 := .bool false) (x1 := .slice none 0 0) (x2 := .int .i64 0) (x3 := .string ⟨#[]⟩) E (by simp)
   obtain ⟨p0, p1, p2, pf0, pf1, pf2, plt⟩ := S14.all3 (g := g2) (t := 28) (x0 := .bool (ngB x9)) (x1 := .slice A9 n9 c9) (x2 := .int .i64 (k9 : Int)) E (by simp)
   go_wp2_with fail
   go_region
   clear r0 r1 r2 r3 rf0 rf1 rf2 rf3 rlt
   clear p0 p1 p2 pf0 pf1 pf2 plt
   clear a0 a1 a2 a3
   go_wp2_with fail
   have EF := Lib.hid ((E.out.fill4 (g := w.heap.size) (t := 56) (x0 := .bool false) (x1 := .slice none 0 0) (x2 := .int .i64 0) (x3 := .string ⟨#[]⟩) (by simp) (Cl.mk (cl_cons (noLimb_bool _) (cl_cons (noLimb_slice _ _ _) (cl_cons (noLimb_int _) (cl_cons (noLimb_str _) cl_nil))))) (by first | exact Nat.le_refl _ | omega) [] (fun q hq => by cases hq) (.bool (ngB x9)) (.slice A9 n9 c9) (.int .i64 (k9 : Int)) (.string T)).step (Below.refl _ _).drew)
   obtain ⟨r0, r1, r2, r3, -, -, -, -, -⟩ := S14.all4 (g := w.heap.size) (t := 56) (x0 := .bool (ngB x9)) (x1 := .slice A9 n9 c9) (x2 := .int .i64 (k9 : Int)) (x3 := .string T) EF (by simp)
   exact bodyPost_ret (v := .tuple #[.agg #[.bool (ngB x9), .slice A9 n9 c9, .int .i64 (k9 : Int), .string T], .int .i64 (b10 : Int), .int .i64 0]) (by simp [results, Tryz.results17, go_sem, r0, r1, r2, r3]) rfl (by have q := H.out; rw [HA.out] at q; cases q; exact ⟨A9, n9, c9, rfl, S14.got EF (by simp), EF.out.bel⟩)
  | false =>
   obtain ⟨x2, hx2⟩ : ∃ x, (if b9 < n then 3 else 2) = x := ⟨_, rfl⟩
   have HA : Hid (amt (L.map tok) i = .inl (x2, b9)) := by
    show _ = _
    rw [amt_not HS.out hb2, List.length_map, ← HLEN.out, hx2]
   go_wp2_with fail
   refine (missing_is hbn hx2).mono ?_; rintro e1 w3 ⟨rfl, hw⟩
   obtain rfl := hw.symm
   clear hw hx2 hb2
   obtain ⟨r0, r1, r2, r3, rf0, rf1, rf2, rf3, rlt⟩ := S14.all4 (g := w.heap.size) (t := 56) (x0 := .bool false) (x1 := .slice none 0 0) (x2 := .int .i64 0) (x3 := .string ⟨#[]⟩) E (by simp)
   go_wp2_with fail
   clear r0 r1 r2 r3 rf0 rf1 rf2 rf3 rlt
   have EF := Lib.hid ((E.out.fill4 (g := w.heap.size) (t := 56) (x0 := .bool false) (x1 := .slice none 0 0) (x2 := .int .i64 0) (x3 := .string ⟨#[]⟩) (by simp) (Cl.mk (cl_cons (noLimb_bool _) (cl_cons (noLimb_slice _ _ _) (cl_cons (noLimb_int _) (cl_cons (noLimb_str _) cl_nil))))) (by first | exact Nat.le_refl _ | omega) [] (fun q hq => by cases hq) (.bool false) (.slice none 0 0) (.int .i64 0) (.string ⟨#[]⟩)))
   obtain ⟨r0, r1, r2, r3, -, -, -, -, -⟩ := S14.all4 (g := w.heap.size) (t := 56) (x0 := .bool false) (x1 := .slice none 0 0) (x2 := .int .i64 0) (x3 := .string ⟨#[]⟩) EF (by simp)
   exact bodyPost_ret (v := .tuple #[.agg #[.bool false, .slice none 0 0, .int .i64 0, .string ⟨#[]⟩], .int .i64 (b9 : Int), .int .i64 (x2 : Int)]) (by simp [results, Tryz.results17, go_sem, r0, r1, r2, r3]) rfl (by have q := H.out; rw [HA.out] at q; cases q; exact ⟨none, 0, 0, rfl, num_zero _ _, EF.out.bel⟩)
section
variable {L : List Tok} {a : Nat} {t : Tok}
theorem isK_tok {L : List Tk4} {i : Nat} {k : Int} (h : isK (L.map tok) i k = true) : ∃ t, L[i]? = some t ∧ t.1 = k := by
 cases ht : L[i]? with
 | none => rw [isK_end (List.getElem?_eq_none_iff.1 ht)] at h; cases h
 | some t => rw [isK_get ht] at h; exact ⟨t, rfl, of_decide_eq_true h⟩
theorem unt_none (h : L[a]? = none) : unt L a = .inr (Un.zero, a) := by unfold unt; rw [h]
theorem unt_cur (ht : L[a]? = some t) (h3 : t.1 = 3) : unt L a = .inr (⟨false, 0, 0, t.2⟩, a + 1) := by unfold unt; rw [ht]; dsimp only; rw [if_pos h3]
theorem unt_not (ht : L[a]? = some t) (h3 : t.1 ≠ 3) (hs : sta t = false) : unt L a = .inr (Un.zero, a) := by unfold unt; rw [ht]; dsimp only; rw [if_neg h3, if_pos hs]
theorem unt_amt (ht : L[a]? = some t) (h3 : t.1 ≠ 3) (hs : sta t = true) {va : VA} {pa ea : Nat} (hA : resA (amt L a) = (va, pa, ea)) : resU (unt L a) = (⟨((ea : Int) == 0), va.i, va.k, va.s⟩, pa, ea) := by
 unfold unt; rw [ht]; dsimp only; rw [if_neg h3, if_neg (by rw [hs]; decide)]
 cases hq : amt L a with
 | inl q =>
  obtain ⟨z, y⟩ := q
  have hz := amt_bad hq
  have e : ((z : Int) == 0) = false := by rw [beq_eq_false_iff_ne]; omega
  rw [hq] at hA
  cases hA
  dsimp only
  rw [e]; rfl
 | inr q =>
  obtain ⟨x, k, c, b⟩ := q
  rw [hq] at hA
  cases hA
  rfl
end
theorem units_at {w : World} {B n c i : Nat} {A : Option Addr} {L : List Tk4} {G : Nat → Nat → Int → Nat → Prop} (hr : RdK w B A n c L) (hB : B ≤ w.heap.size) (hn : n ≤ 400) (hL : Siz (L.map tok) G) (hok : Ok12 w) (hi : i ≤ n) {v : VU} {p e : Nat} (h : resU (unt (L.map tok) i) = (v, p, e)) : Calls Tryz.prog 6 #[.slice A n c, .int .i64 (i : Int)] w (RvU w v p e) := by
 have hlen := hr.len
 have RD : Hid (∀ {W : World}, Below w.heap.size w W → RdK W B A n c L) := fun hb => hr.on hB hb
 have OK : Hid (∀ {W : World}, Below w.heap.size w W → Ok12 W) := fun hb => okw12 hok hb
 have E := Lib.hid (S14.start w)
 obtain ⟨⟨va, pa, ea⟩, hA⟩ : ∃ x, resA (amt (L.map tok) i) = x := ⟨_, rfl⟩
 have AM : Hid (∀ {W : World}, Below w.heap.size w W → Calls Tryz.prog 17 #[.slice A n c, .int .i64 (i : Int)] W (RvA W va pa ea)) := fun hb => amount_at (RD.out hb) (Nat.le_trans hB hb.size) hn hL (OK.out hb) hi hA
 have HAA := Lib.hid hA
 have H := Lib.hid h
 have HB := Lib.hid hB
 have HLEN := Lib.hid hlen
 clear hA h hr hok hlen hB
 go_enter Tryz.func6, Tryz.ntmps6
 go_wp2_with fail
 replace E := Lib.hid (E.out.lay #[.bool false, .bool false, .slice none 0 0, .int .i64 0, .string ⟨#[]⟩] 30 (g := w.heap.size) (by simp))
 generalize hW : World.alloc w _ = W1 at E ⊢
 clear hW
 refine (there_is (b := true) (decide_eq_true ⟨by omega, by omega⟩)).mono ?_; rintro e1 w3 ⟨rfl, hw⟩
 obtain rfl := hw.symm
 clear hw
 go_wp2_with fail
 obtain ⟨b2, hb2⟩ : ∃ b2, isK (L.map tok) i 3 = b2 := ⟨_, rfl⟩
 refine (iskind_is (RD.out E.out.bel) (by omega) hb2).mono ?_; rintro e1 w3 ⟨rfl, hw⟩
 obtain rfl := hw.symm
 clear hw
 cases b2 with
 | true =>
  obtain ⟨t, ht, h3⟩ := isK_tok hb2
  obtain ⟨qq, uu, rfl, -, -, hq, hbl, a0, a1, a2, a3⟩ := (RD.out E.out.bel).at_ ht
  obtain ⟨k, T, l, m⟩ := t
  have HA : Hid (unt (L.map tok) i = .inr (⟨false, 0, 0, T⟩, i + 1)) := unt_cur (t := (k, T)) (by rw [List.getElem?_map, ht]; rfl) h3
  have hqs : qq < W1.heap.size := by have := E.out.bel.size; have := HB.out; omega
  clear hb2 h3 ht
  have d3 : decide (i < n) = true := decide_eq_true hbl
  have d4 : (0 : Int) ≤ (i : Int) := by omega
  have d5 : (i : Int) < (n : Int) := by omega
  obtain ⟨i1, hi1⟩ : ∃ x, i + 1 = x := ⟨_, rfl⟩
  have ei : (i : Int) + 1 = (i1 : Int) := by omega
  rw [hi1] at HA
  clear hi1
  obtain ⟨r0, r1, r2, r3, r4, rf0, rf1, rf2, rf3, rf4, rlt⟩ := S14.all5 (g := w.heap.size) (t := 30) (x0 := .bool false) (x1 := .bool false) (x2 := .slice none 0 0) (x3 := .int .i64 0) (x4 := .string ⟨#[]⟩) E (by simp)
  go_wp2_with fail
  clear r0 r1 r2 r3 r4 rf0 rf1 rf2 rf3 rf4 rlt
  clear a0 a1 a2 a3
  have EF := Lib.hid ((E.out.fill5 (g := w.heap.size) (t := 30) (x0 := .bool false) (x1 := .bool false) (x2 := .slice none 0 0) (x3 := .int .i64 0) (x4 := .string ⟨#[]⟩) (by simp) (Cl.mk (cl_cons (noLimb_bool _) (cl_cons (noLimb_bool _) (cl_cons (noLimb_slice _ _ _) (cl_cons (noLimb_int _) (cl_cons (noLimb_str _) cl_nil)))))) (by first | exact Nat.le_refl _ | omega) [] (fun q hq => by cases hq) (.bool false) (.bool false) (.slice none 0 0) (.int .i64 0) (.string T)))
  obtain ⟨r0, r1, r2, r3, r4, -, -, -, -, -, -⟩ := S14.all5 (g := w.heap.size) (t := 30) (x0 := .bool false) (x1 := .bool false) (x2 := .slice none 0 0) (x3 := .int .i64 0) (x4 := .string T) EF (by simp)
  exact bodyPost_ret (v := .tuple #[.agg #[.bool false, .bool false, .slice none 0 0, .int .i64 0, .string T], .int .i64 (i1 : Int), .int .i64 0]) (by simp [results, Tryz.results6, go_sem, r0, r1, r2, r3, r4]) rfl (by have q := H.out; rw [HA.out] at q; cases q; exact ⟨none, 0, 0, rfl, num_zero _ _, EF.out.bel⟩)
 | false =>
  by_cases hin : i < n
  ·obtain ⟨t, ht⟩ : ∃ t, L[i]? = some t := ⟨_, List.getElem?_eq_getElem (by have := HLEN.out; omega)⟩
   have h3 : t.1 ≠ 3 := by rw [isK_get ht] at hb2; exact of_decide_eq_false hb2
   obtain ⟨qq, uu, rfl, -, -, hq, hbl, a0, a1, a2, a3⟩ := (RD.out E.out.bel).at_ ht
   obtain ⟨k, T, l, m⟩ := t
   have htt : (L.map tok)[i]? = some (k, T) := by rw [List.getElem?_map, ht]; rfl
   have hqs : qq < W1.heap.size := by have := E.out.bel.size; have := HB.out; omega
   have d1 : decide ((i : Int) < (n : Int)) = true := decide_eq_true (by omega)
   have d3 : decide (i < n) = true := decide_eq_true hin
   have d4 : (0 : Int) ≤ (i : Int) := by omega
   have d5 : (i : Int) < (n : Int) := by omega
   obtain ⟨bs, hbs⟩ : ∃ bs, sta (k, T) = bs := ⟨_, rfl⟩
   clear hb2 ht
   go_wp2_with fail
   refine (pstarts hbs l m).mono ?_; rintro e1 w2 ⟨rfl, hb⟩
   clear a0 a1 a2 a3
   replace E := Lib.hid (E.out.step hb); clear hb
   cases bs with
   | true =>
    have HA : Hid (resU (unt (L.map tok) i) = (⟨((ea : Int) == 0), va.i, va.k, va.s⟩, pa, ea)) := unt_amt htt h3 hbs HAA.out
    clear hbs h3 htt
    go_wp2_with fail
    refine (AM.out E.out.bel).mono ?_; rintro e1 w4 ⟨A9, n9, c9, rfl, hnum, hb⟩
    replace E := Lib.hid (E.out.push hb hnum); clear hb hnum
    obtain ⟨b7, hb7⟩ : ∃ b7, ((ea : Int) == 0) = b7 := ⟨_, rfl⟩
    rw [hb7] at HA
    obtain ⟨r0, r1, r2, r3, r4, rf0, rf1, rf2, rf3, rf4, rlt⟩ := S14.all5 (g := w.heap.size) (t := 30) (x0 := .bool false) (x1 := .bool false) (x2 := .slice none 0 0) (x3 := .int .i64 0) (x4 := .string ⟨#[]⟩) E (by simp)
    go_wp2_with fail
    clear r0 r1 r2 r3 r4 rf0 rf1 rf2 rf3 rf4 rlt
    have EF := Lib.hid ((E.out.fill5 (g := w.heap.size) (t := 30) (x0 := .bool false) (x1 := .bool false) (x2 := .slice none 0 0) (x3 := .int .i64 0) (x4 := .string ⟨#[]⟩) (by simp) (Cl.mk (cl_cons (noLimb_bool _) (cl_cons (noLimb_bool _) (cl_cons (noLimb_slice _ _ _) (cl_cons (noLimb_int _) (cl_cons (noLimb_str _) cl_nil)))))) (by first | exact Nat.le_refl _ | omega) [] (fun q hq => by cases hq) (.bool b7) (.bool (ngB va.i)) (.slice A9 n9 c9) (.int .i64 (va.k : Int)) (.string va.s)).lay #[.bool (ngB va.i), .slice A9 n9 c9, .int .i64 (va.k : Int), .string va.s] 56 (g := w4.heap.size) (by simp))
    obtain ⟨r0, r1, r2, r3, r4, -, -, -, -, -, -⟩ := S14.all5 (g := w.heap.size) (t := 30) (x0 := .bool b7) (x1 := .bool (ngB va.i)) (x2 := .slice A9 n9 c9) (x3 := .int .i64 (va.k : Int)) (x4 := .string va.s) EF (by simp)
    exact bodyPost_ret (v := .tuple #[.agg #[.bool b7, .bool (ngB va.i), .slice A9 n9 c9, .int .i64 (va.k : Int), .string va.s], .int .i64 (pa : Int), .int .i64 (ea : Int)]) (by simp [results, Tryz.results6, go_sem, r0, r1, r2, r3, r4]) rfl (by have q := H.out; rw [HA.out] at q; cases q; exact ⟨A9, n9, c9, rfl, S14.got EF (by simp), EF.out.bel⟩)
   | false =>
    have HA : Hid (unt (L.map tok) i = .inr (Un.zero, i)) := unt_not htt h3 hbs
    clear hbs h3 htt
    obtain ⟨r0, r1, r2, r3, r4, rf0, rf1, rf2, rf3, rf4, rlt⟩ := S14.all5 (g := w.heap.size) (t := 30) (x0 := .bool false) (x1 := .bool false) (x2 := .slice none 0 0) (x3 := .int .i64 0) (x4 := .string ⟨#[]⟩) E (by simp)
    go_wp2_with fail
    clear r0 r1 r2 r3 r4 rf0 rf1 rf2 rf3 rf4 rlt
    have EF := Lib.hid ((E.out.fill5 (g := w.heap.size) (t := 30) (x0 := .bool false) (x1 := .bool false) (x2 := .slice none 0 0) (x3 := .int .i64 0) (x4 := .string ⟨#[]⟩) (by simp) (Cl.mk (cl_cons (noLimb_bool _) (cl_cons (noLimb_bool _) (cl_cons (noLimb_slice _ _ _) (cl_cons (noLimb_int _) (cl_cons (noLimb_str _) cl_nil)))))) (by first | exact Nat.le_refl _ | omega) [] (fun q hq => by cases hq) (.bool false) (.bool false) (.slice none 0 0) (.int .i64 0) (.string ⟨#[]⟩)))
    obtain ⟨r0, r1, r2, r3, r4, -, -, -, -, -, -⟩ := S14.all5 (g := w.heap.size) (t := 30) (x0 := .bool false) (x1 := .bool false) (x2 := .slice none 0 0) (x3 := .int .i64 0) (x4 := .string ⟨#[]⟩) EF (by simp)
    exact bodyPost_ret (v := .tuple #[.agg #[.bool false, .bool false, .slice none 0 0, .int .i64 0, .string ⟨#[]⟩], .int .i64 (i : Int), .int .i64 0]) (by simp [results, Tryz.results6, go_sem, r0, r1, r2, r3, r4]) rfl (by have q := H.out; rw [HA.out] at q; cases q; exact ⟨none, 0, 0, rfl, num_zero _ _, EF.out.bel⟩)
  ·have HA : Hid (unt (L.map tok) i = .inr (Un.zero, i)) := unt_none (List.getElem?_eq_none (by rw [List.length_map]; have := HLEN.out; omega))
   have d1 : decide ((i : Int) < (n : Int)) = false := decide_eq_false (by omega)
   have d3 : decide (i < n) = false := decide_eq_false hin
   clear hb2
   obtain ⟨r0, r1, r2, r3, r4, rf0, rf1, rf2, rf3, rf4, rlt⟩ := S14.all5 (g := w.heap.size) (t := 30) (x0 := .bool false) (x1 := .bool false) (x2 := .slice none 0 0) (x3 := .int .i64 0) (x4 := .string ⟨#[]⟩) E (by simp)
   go_wp2_with fail
   clear r0 r1 r2 r3 r4 rf0 rf1 rf2 rf3 rf4 rlt
   have EF := Lib.hid ((E.out.fill5 (g := w.heap.size) (t := 30) (x0 := .bool false) (x1 := .bool false) (x2 := .slice none 0 0) (x3 := .int .i64 0) (x4 := .string ⟨#[]⟩) (by simp) (Cl.mk (cl_cons (noLimb_bool _) (cl_cons (noLimb_bool _) (cl_cons (noLimb_slice _ _ _) (cl_cons (noLimb_int _) (cl_cons (noLimb_str _) cl_nil)))))) (by first | exact Nat.le_refl _ | omega) [] (fun q hq => by cases hq) (.bool false) (.bool false) (.slice none 0 0) (.int .i64 0) (.string ⟨#[]⟩)))
   obtain ⟨r0, r1, r2, r3, r4, -, -, -, -, -, -⟩ := S14.all5 (g := w.heap.size) (t := 30) (x0 := .bool false) (x1 := .bool false) (x2 := .slice none 0 0) (x3 := .int .i64 0) (x4 := .string ⟨#[]⟩) EF (by simp)
   exact bodyPost_ret (v := .tuple #[.agg #[.bool false, .bool false, .slice none 0 0, .int .i64 0, .string ⟨#[]⟩], .int .i64 (i : Int), .int .i64 0]) (by simp [results, Tryz.results6, go_sem, r0, r1, r2, r3, r4]) rfl (by have q := H.out; rw [HA.out] at q; cases q; exact ⟨none, 0, 0, rfl, num_zero _ _, EF.out.bel⟩)
section
variable {L : List Tok} {a : Nat}
theorem prc_no (h1 : isW L a [64, 64] = false) (h2 : isW L a [64] = false) : prc L a = .inr (none, a) := by unfold prc; rw [if_neg (by rw [h1, h2]; decide)]
theorem prc_bads {b : Bool} {vu : VU} {pu eu : Nat} (h1 : isW L a [64, 64] = b) (h2 : b = true ∨ isW L a [64] = true) (hU : resU (unt L (a + 1)) = (vu, pu, eu)) (he : eu ≠ 0) : resP (prc L a) = (VP.of none, pu, eu) := by
 unfold prc; rw [h1, if_pos h2]
 cases hq : unt L (a + 1) with
 | inl q => obtain ⟨z, y⟩ := q; rw [hq] at hU; cases hU; rfl
 | inr q => obtain ⟨u, y⟩ := q; rw [hq] at hU; exact absurd (congrArg (fun x => x.2.2) hU).symm he
theorem prc_good {b : Bool} {vu : VU} {pu eu : Nat} (h1 : isW L a [64, 64] = b) (h2 : b = true ∨ isW L a [64] = true) (hU : resU (unt L (a + 1)) = (vu, pu, eu)) (he : eu = 0) : resP (prc L a) = (⟨true, b, vu.b, vu.i, vu.k, vu.s⟩, pu, 0) := by
 unfold prc; rw [h1, if_pos h2]
 cases hq : unt L (a + 1) with
 | inl q => obtain ⟨z, y⟩ := q; have hz := unt_bad hq; rw [hq] at hU; exact absurd ((congrArg (fun x => x.2.2) hU).trans he) hz
 | inr q => obtain ⟨u, y⟩ := q; rw [hq] at hU; cases hU; rfl
theorem isW_lt {L : List Tk4} {i : Nat} {x : List Nat} (h : isW (L.map tok) i x = true) : i < L.length := by
 rcases Nat.lt_or_ge i L.length with h1 | h1
 ·exact h1
 ·rw [isW_none h1] at h; cases h
end
theorem price_at {w : World} {B n c i : Nat} {A : Option Addr} {L : List Tk4} {G : Nat → Nat → Int → Nat → Prop} (hr : RdK w B A n c L) (hB : B ≤ w.heap.size) (hn : n ≤ 400) (hL : Siz (L.map tok) G) (hok : Ok12 w) (hi : i ≤ n) {v : VP} {p e : Nat} (h : resP (prc (L.map tok) i) = (v, p, e)) : Calls Tryz.prog 14 #[.slice A n c, .int .i64 (i : Int)] w (RvP w v p e) := by
 have hlen := hr.len
 have RD : Hid (∀ {W : World}, Below w.heap.size w W → RdK W B A n c L) := fun hb => hr.on hB hb
 have OK : Hid (∀ {W : World}, Below w.heap.size w W → Ok12 W) := fun hb => okw12 hok hb
 have E := Lib.hid (S14.start w)
 have H := Lib.hid h
 have HB := Lib.hid hB
 have HLEN := Lib.hid hlen
 clear h hr hok hlen hB
 go_enter Tryz.func14, Tryz.ntmps14
 go_wp2_with fail
 replace E := Lib.hid (E.out.lay #[.bool false, .bool false, .bool false, .bool false, .slice none 0 0, .int .i64 0, .string ⟨#[]⟩] 46 (g := w.heap.size) (by simp))
 generalize hW : World.alloc w _ = W1 at E ⊢
 clear hW
 refine (there_is (b := true) (decide_eq_true ⟨by omega, by omega⟩)).mono ?_; rintro e1 w3 ⟨rfl, hw⟩
 obtain rfl := hw.symm
 clear hw
 go_wp2_with fail
 obtain ⟨b1, hb1⟩ : ∃ b, isW (L.map tok) i [64, 64] = b := ⟨_, rfl⟩
 refine (issign_is (RD.out E.out.bel) (by omega) ⟨#[64, 64]⟩ rfl hb1).mono ?_; rintro e1 w3 ⟨rfl, hw⟩
 obtain rfl := hw.symm
 clear hw
 cases b1 with
 | true =>
  have hin : i < n := by have := isW_lt hb1; have := HLEN.out; omega
  obtain ⟨⟨vu, pu, eu⟩, hU⟩ : ∃ x, resU (unt (L.map tok) (i + 1)) = x := ⟨_, rfl⟩
  have HBAD : Hid (eu ≠ 0 → resP (prc (L.map tok) i) = (VP.of none, pu, eu)) := prc_bads hb1 (.inl rfl) hU
  have HGOOD : Hid (eu = 0 → resP (prc (L.map tok) i) = (⟨true, true, vu.b, vu.i, vu.k, vu.s⟩, pu, 0)) := prc_good hb1 (.inl rfl) hU
  have UC : Hid (∀ {W : World}, Below w.heap.size w W → Calls Tryz.prog 6 #[.slice A n c, .int .i64 ((i + 1 : Nat) : Int)] W (RvU W vu pu eu)) := fun hb => units_at (RD.out hb) (Nat.le_trans HB.out hb.size) hn hL (OK.out hb) (by omega) hU
  obtain ⟨i1, hi1⟩ : ∃ x, i + 1 = x := ⟨_, rfl⟩
  have ei : (i : Int) + 1 = (i1 : Int) := by omega
  rw [hi1] at UC
  clear hi1 hU hb1
  go_wp2_with fail
  refine (UC.out E.out.bel).mono ?_; rintro e1 w4 ⟨A9, n9, c9, rfl, hnum, hb⟩
  replace E := Lib.hid (E.out.push hb hnum); clear hb hnum
  by_cases he : eu = 0
  ·have HA := Lib.hid (HGOOD.out he)
   have de : ((eu : Int) != 0) = false := by rw [he]; rfl
   clear he
   obtain ⟨r0, r1, r2, r3, r4, r5, r6, rf0, rf1, rf2, rf3, rf4, rf5, rf6, rlt⟩ := S14.all7 (g := w.heap.size) (t := 46) (x0 := .bool false) (x1 := .bool false) (x2 := .bool false) (x3 := .bool false) (x4 := .slice none 0 0) (x5 := .int .i64 0) (x6 := .string ⟨#[]⟩) E (by simp)
   go_wp2_with fail
   clear r0 r1 r2 r3 r4 r5 r6 rf0 rf1 rf2 rf3 rf4 rf5 rf6 rlt
   have EF := Lib.hid ((E.out.fill7 (g := w.heap.size) (t := 46) (x0 := .bool false) (x1 := .bool false) (x2 := .bool false) (x3 := .bool false) (x4 := .slice none 0 0) (x5 := .int .i64 0) (x6 := .string ⟨#[]⟩) (by simp) (Cl.mk (cl_cons (noLimb_bool _) (cl_cons (noLimb_bool _) (cl_cons (noLimb_bool _) (cl_cons (noLimb_bool _) (cl_cons (noLimb_slice _ _ _) (cl_cons (noLimb_int _) (cl_cons (noLimb_str _) cl_nil)))))))) (by first | exact Nat.le_refl _ | omega) [] (fun q hq => by cases hq) (.bool true) (.bool true) (.bool vu.b) (.bool (ngB vu.i)) (.slice A9 n9 c9) (.int .i64 (vu.k : Int)) (.string vu.s)).lay #[.bool vu.b, .bool (ngB vu.i), .slice A9 n9 c9, .int .i64 (vu.k : Int), .string vu.s] 30 (g := w4.heap.size) (by simp))
   obtain ⟨r0, r1, r2, r3, r4, r5, r6, -, -, -, -, -, -, -, -⟩ := S14.all7 (g := w.heap.size) (t := 46) (x0 := .bool true) (x1 := .bool true) (x2 := .bool vu.b) (x3 := .bool (ngB vu.i)) (x4 := .slice A9 n9 c9) (x5 := .int .i64 (vu.k : Int)) (x6 := .string vu.s) EF (by simp)
   exact bodyPost_ret (v := .tuple #[.agg #[.bool true, .bool true, .bool vu.b, .bool (ngB vu.i), .slice A9 n9 c9, .int .i64 (vu.k : Int), .string vu.s], .int .i64 (pu : Int), .int .i64 0]) (by simp [results, Tryz.results14, go_sem, r0, r1, r2, r3, r4, r5, r6]) rfl (by have q := H.out; rw [HA.out] at q; cases q; exact ⟨A9, n9, c9, rfl, S14.got EF (by simp), EF.out.bel⟩)
  ·have HA := Lib.hid (HBAD.out he)
   have de : ((eu : Int) != 0) = true := by rw [bne_iff_ne]; omega
   clear he
   obtain ⟨r0, r1, r2, r3, r4, r5, r6, rf0, rf1, rf2, rf3, rf4, rf5, rf6, rlt⟩ := S14.all7 (g := w.heap.size) (t := 46) (x0 := .bool false) (x1 := .bool false) (x2 := .bool false) (x3 := .bool false) (x4 := .slice none 0 0) (x5 := .int .i64 0) (x6 := .string ⟨#[]⟩) E (by simp)
   go_wp2_with fail
   clear r0 r1 r2 r3 r4 r5 r6 rf0 rf1 rf2 rf3 rf4 rf5 rf6 rlt
   have EF := Lib.hid ((E.out.fill7 (g := w.heap.size) (t := 46) (x0 := .bool false) (x1 := .bool false) (x2 := .bool false) (x3 := .bool false) (x4 := .slice none 0 0) (x5 := .int .i64 0) (x6 := .string ⟨#[]⟩) (by simp) (Cl.mk (cl_cons (noLimb_bool _) (cl_cons (noLimb_bool _) (cl_cons (noLimb_bool _) (cl_cons (noLimb_bool _) (cl_cons (noLimb_slice _ _ _) (cl_cons (noLimb_int _) (cl_cons (noLimb_str _) cl_nil)))))))) (by first | exact Nat.le_refl _ | omega) [] (fun q hq => by cases hq) (.bool false) (.bool false) (.bool false) (.bool false) (.slice none 0 0) (.int .i64 0) (.string ⟨#[]⟩)).lay #[.bool vu.b, .bool (ngB vu.i), .slice A9 n9 c9, .int .i64 (vu.k : Int), .string vu.s] 30 (g := w4.heap.size) (by simp))
   obtain ⟨r0, r1, r2, r3, r4, r5, r6, -, -, -, -, -, -, -, -⟩ := S14.all7 (g := w.heap.size) (t := 46) (x0 := .bool false) (x1 := .bool false) (x2 := .bool false) (x3 := .bool false) (x4 := .slice none 0 0) (x5 := .int .i64 0) (x6 := .string ⟨#[]⟩) EF (by simp)
   exact bodyPost_ret (v := .tuple #[.agg #[.bool false, .bool false, .bool false, .bool false, .slice none 0 0, .int .i64 0, .string ⟨#[]⟩], .int .i64 (pu : Int), .int .i64 (eu : Int)]) (by simp [results, Tryz.results14, go_sem, r0, r1, r2, r3, r4, r5, r6]) rfl (by have q := H.out; rw [HA.out] at q; cases q; exact ⟨none, 0, 0, rfl, num_zero _ _, EF.out.bel⟩)
 | false =>
  go_wp2_with fail
  obtain ⟨b2, hb2⟩ : ∃ b, isW (L.map tok) i [64] = b := ⟨_, rfl⟩
  refine (issign_is (RD.out E.out.bel) (by omega) ⟨#[64]⟩ rfl hb2).mono ?_; rintro e1 w3 ⟨rfl, hw⟩
  obtain rfl := hw.symm
  clear hw
  cases b2 with
  | true =>
   have hin : i < n := by have := isW_lt hb2; have := HLEN.out; omega
   obtain ⟨⟨vu, pu, eu⟩, hU⟩ : ∃ x, resU (unt (L.map tok) (i + 1)) = x := ⟨_, rfl⟩
   have HBAD : Hid (eu ≠ 0 → resP (prc (L.map tok) i) = (VP.of none, pu, eu)) := prc_bads hb1 (.inr hb2) hU
   have HGOOD : Hid (eu = 0 → resP (prc (L.map tok) i) = (⟨true, false, vu.b, vu.i, vu.k, vu.s⟩, pu, 0)) := prc_good hb1 (.inr hb2) hU
   have UC : Hid (∀ {W : World}, Below w.heap.size w W → Calls Tryz.prog 6 #[.slice A n c, .int .i64 ((i + 1 : Nat) : Int)] W (RvU W vu pu eu)) := fun hb => units_at (RD.out hb) (Nat.le_trans HB.out hb.size) hn hL (OK.out hb) (by omega) hU
   obtain ⟨i1, hi1⟩ : ∃ x, i + 1 = x := ⟨_, rfl⟩
   have ei : (i : Int) + 1 = (i1 : Int) := by omega
   rw [hi1] at UC
   clear hi1 hU hb1 hb2
   go_wp2_with fail
   refine (UC.out E.out.bel).mono ?_; rintro e1 w4 ⟨A9, n9, c9, rfl, hnum, hb⟩
   replace E := Lib.hid (E.out.push hb hnum); clear hb hnum
   by_cases he : eu = 0
   ·have HA := Lib.hid (HGOOD.out he)
    have de : ((eu : Int) != 0) = false := by rw [he]; rfl
    clear he
    obtain ⟨r0, r1, r2, r3, r4, r5, r6, rf0, rf1, rf2, rf3, rf4, rf5, rf6, rlt⟩ := S14.all7 (g := w.heap.size) (t := 46) (x0 := .bool false) (x1 := .bool false) (x2 := .bool false) (x3 := .bool false) (x4 := .slice none 0 0) (x5 := .int .i64 0) (x6 := .string ⟨#[]⟩) E (by simp)
    go_wp2_with fail
    clear r0 r1 r2 r3 r4 r5 r6 rf0 rf1 rf2 rf3 rf4 rf5 rf6 rlt
    have EF := Lib.hid ((E.out.fill7 (g := w.heap.size) (t := 46) (x0 := .bool false) (x1 := .bool false) (x2 := .bool false) (x3 := .bool false) (x4 := .slice none 0 0) (x5 := .int .i64 0) (x6 := .string ⟨#[]⟩) (by simp) (Cl.mk (cl_cons (noLimb_bool _) (cl_cons (noLimb_bool _) (cl_cons (noLimb_bool _) (cl_cons (noLimb_bool _) (cl_cons (noLimb_slice _ _ _) (cl_cons (noLimb_int _) (cl_cons (noLimb_str _) cl_nil)))))))) (by first | exact Nat.le_refl _ | omega) [] (fun q hq => by cases hq) (.bool true) (.bool false) (.bool vu.b) (.bool (ngB vu.i)) (.slice A9 n9 c9) (.int .i64 (vu.k : Int)) (.string vu.s)).lay #[.bool vu.b, .bool (ngB vu.i), .slice A9 n9 c9, .int .i64 (vu.k : Int), .string vu.s] 30 (g := w4.heap.size) (by simp))
    obtain ⟨r0, r1, r2, r3, r4, r5, r6, -, -, -, -, -, -, -, -⟩ := S14.all7 (g := w.heap.size) (t := 46) (x0 := .bool true) (x1 := .bool false) (x2 := .bool vu.b) (x3 := .bool (ngB vu.i)) (x4 := .slice A9 n9 c9) (x5 := .int .i64 (vu.k : Int)) (x6 := .string vu.s) EF (by simp)
    exact bodyPost_ret (v := .tuple #[.agg #[.bool true, .bool false, .bool vu.b, .bool (ngB vu.i), .slice A9 n9 c9, .int .i64 (vu.k : Int), .string vu.s], .int .i64 (pu : Int), .int .i64 0]) (by simp [results, Tryz.results14, go_sem, r0, r1, r2, r3, r4, r5, r6]) rfl (by have q := H.out; rw [HA.out] at q; cases q; exact ⟨A9, n9, c9, rfl, S14.got EF (by simp), EF.out.bel⟩)
   ·have HA := Lib.hid (HBAD.out he)
    have de : ((eu : Int) != 0) = true := by rw [bne_iff_ne]; omega
    clear he
    obtain ⟨r0, r1, r2, r3, r4, r5, r6, rf0, rf1, rf2, rf3, rf4, rf5, rf6, rlt⟩ := S14.all7 (g := w.heap.size) (t := 46) (x0 := .bool false) (x1 := .bool false) (x2 := .bool false) (x3 := .bool false) (x4 := .slice none 0 0) (x5 := .int .i64 0) (x6 := .string ⟨#[]⟩) E (by simp)
    go_wp2_with fail
    clear r0 r1 r2 r3 r4 r5 r6 rf0 rf1 rf2 rf3 rf4 rf5 rf6 rlt
    have EF := Lib.hid ((E.out.fill7 (g := w.heap.size) (t := 46) (x0 := .bool false) (x1 := .bool false) (x2 := .bool false) (x3 := .bool false) (x4 := .slice none 0 0) (x5 := .int .i64 0) (x6 := .string ⟨#[]⟩) (by simp) (Cl.mk (cl_cons (noLimb_bool _) (cl_cons (noLimb_bool _) (cl_cons (noLimb_bool _) (cl_cons (noLimb_bool _) (cl_cons (noLimb_slice _ _ _) (cl_cons (noLimb_int _) (cl_cons (noLimb_str _) cl_nil)))))))) (by first | exact Nat.le_refl _ | omega) [] (fun q hq => by cases hq) (.bool false) (.bool false) (.bool false) (.bool false) (.slice none 0 0) (.int .i64 0) (.string ⟨#[]⟩)).lay #[.bool vu.b, .bool (ngB vu.i), .slice A9 n9 c9, .int .i64 (vu.k : Int), .string vu.s] 30 (g := w4.heap.size) (by simp))
    obtain ⟨r0, r1, r2, r3, r4, r5, r6, -, -, -, -, -, -, -, -⟩ := S14.all7 (g := w.heap.size) (t := 46) (x0 := .bool false) (x1 := .bool false) (x2 := .bool false) (x3 := .bool false) (x4 := .slice none 0 0) (x5 := .int .i64 0) (x6 := .string ⟨#[]⟩) EF (by simp)
    exact bodyPost_ret (v := .tuple #[.agg #[.bool false, .bool false, .bool false, .bool false, .slice none 0 0, .int .i64 0, .string ⟨#[]⟩], .int .i64 (pu : Int), .int .i64 (eu : Int)]) (by simp [results, Tryz.results14, go_sem, r0, r1, r2, r3, r4, r5, r6]) rfl (by have q := H.out; rw [HA.out] at q; cases q; exact ⟨none, 0, 0, rfl, num_zero _ _, EF.out.bel⟩)
  | false =>
   have HA : Hid (prc (L.map tok) i = .inr (none, i)) := prc_no hb1 hb2
   clear hb1 hb2
   obtain ⟨r0, r1, r2, r3, r4, r5, r6, rf0, rf1, rf2, rf3, rf4, rf5, rf6, rlt⟩ := S14.all7 (g := w.heap.size) (t := 46) (x0 := .bool false) (x1 := .bool false) (x2 := .bool false) (x3 := .bool false) (x4 := .slice none 0 0) (x5 := .int .i64 0) (x6 := .string ⟨#[]⟩) E (by simp)
   go_wp2_with fail
   clear r0 r1 r2 r3 r4 r5 r6 rf0 rf1 rf2 rf3 rf4 rf5 rf6 rlt
   have EF := Lib.hid ((E.out.fill7 (g := w.heap.size) (t := 46) (x0 := .bool false) (x1 := .bool false) (x2 := .bool false) (x3 := .bool false) (x4 := .slice none 0 0) (x5 := .int .i64 0) (x6 := .string ⟨#[]⟩) (by simp) (Cl.mk (cl_cons (noLimb_bool _) (cl_cons (noLimb_bool _) (cl_cons (noLimb_bool _) (cl_cons (noLimb_bool _) (cl_cons (noLimb_slice _ _ _) (cl_cons (noLimb_int _) (cl_cons (noLimb_str _) cl_nil)))))))) (by first | exact Nat.le_refl _ | omega) [] (fun q hq => by cases hq) (.bool false) (.bool false) (.bool false) (.bool false) (.slice none 0 0) (.int .i64 0) (.string ⟨#[]⟩)))
   obtain ⟨r0, r1, r2, r3, r4, r5, r6, -, -, -, -, -, -, -, -⟩ := S14.all7 (g := w.heap.size) (t := 46) (x0 := .bool false) (x1 := .bool false) (x2 := .bool false) (x3 := .bool false) (x4 := .slice none 0 0) (x5 := .int .i64 0) (x6 := .string ⟨#[]⟩) EF (by simp)
   exact bodyPost_ret (v := .tuple #[.agg #[.bool false, .bool false, .bool false, .bool false, .slice none 0 0, .int .i64 0, .string ⟨#[]⟩], .int .i64 (i : Int), .int .i64 0]) (by simp [results, Tryz.results14, go_sem, r0, r1, r2, r3, r4, r5, r6]) rfl (by have q := H.out; rw [HA.out] at q; cases q; exact ⟨none, 0, 0, rfl, num_zero _ _, EF.out.bel⟩)
abbrev cK (c : Co) (A : Option Addr) (n k : Nat) : Array Value := #[.bool true, .bool c.tot, .bool c.un.has, .bool (ngB c.un.i), .slice A n k, .int .i64 (c.un.k : Int), .string c.un.cur, .int .i64 c.day.1, .int .i64 c.day.2.1, .int .i64 c.day.2.2, .string c.lab]
structure SC (W0 w0 w : World) (g : Nat) (xs : Array Value) (l : List (Option Addr × Nat × Nat × Nat)) (bs : List (Nat × Array Value × TypeId)) : Prop where
 bel : Below W0.heap.size W0 w
 kp : Kp g none w0 w
 pl : W0.heap.size ≤ g ∧ g < w0.heap.size
 num : ∀ q ∈ l, Num w w.heap.size q.1 q.2.1 q.2.2.1 q.2.2.2
 st : Bk w g xs 40
 cl : Cl xs
 blk : ∀ q ∈ bs, Bk w q.1 q.2.1 q.2.2 ∧ w0.heap.size ≤ q.1
section
variable {W0 w0 w w' : World} {g : Nat} {xs xs' : Array Value} {l : List (Option Addr × Nat × Nat × Nat)} {bs : List (Nat × Array Value × TypeId)}
theorem SC.start (hb : Below W0.heap.size W0 w) (hg : W0.heap.size ≤ g) (h : Bk w g xs 40) (hc : Cl xs) : SC W0 w w g xs [] [] := ⟨hb, Kp.refl _ _ _, ⟨hg, h.lt⟩, fun q hq => (by cases hq), h, hc, fun q hq => (by cases hq)⟩
theorem SC.step (h : SC W0 w0 w g xs l bs) (hb : Below w.heap.size w w') : SC W0 w0 w' g xs l bs :=
 ⟨h.bel.trans (hb.mono h.bel.size), kp_trans h.kp (kp_of hb (Nat.le_refl _)), h.pl, fun q hq => (h.num q hq).on hb, h.st.on hb, h.cl, fun q hq => ⟨(h.blk q hq).1.on hb, (h.blk q hq).2⟩⟩
theorem SC.more (h : SC W0 w0 w g xs l bs) {A : Option Addr} {n c a : Nat} (hn : Num w w.heap.size A n c a) : SC W0 w0 w g xs ((A, n, c, a) :: l) bs :=
 ⟨h.bel, h.kp, h.pl, fun q hq => by
  rcases List.mem_cons.1 hq with rfl | hq
  ·exact hn
  ·exact h.num q hq, h.st, h.cl, h.blk⟩
theorem SC.push (h : SC W0 w0 w g xs l bs) (hb : Below w.heap.size w w') {A : Option Addr} {n c a : Nat} (hn : Num w' w'.heap.size A n c a) : SC W0 w0 w' g xs ((A, n, c, a) :: l) bs := (h.step hb).more hn
theorem SC.turn (h : SC W0 w0 w g xs l bs) (hk : Kp g none w w') (hb : Bk w' g xs' 40) (hc : Cl xs') : SC W0 w0 w' g xs' l bs :=
 ⟨below_kp h.bel hk h.pl.1, kp_trans h.kp hk, h.pl, fun q hq => (Lim.bk (h.num q hq) h.st h.cl (Nat.le_refl _) hk).more hk.size, hb, hc, fun q hq => ⟨(h.blk q hq).1.kp hk (by have := (h.blk q hq).2; have := h.pl.2; omega), (h.blk q hq).2⟩⟩
theorem SC.lay (h : SC W0 w0 w g xs l bs) (ys : Array Value) (t : TypeId) {q : Nat} (hq : q = w.heap.size) : SC W0 w0 (w.alloc (.cells ys t)) g xs l ((q, ys, t) :: bs) := by
 have h2 := h.step ((Below.refl _ _).alloc (Nat.le_refl _) (.cells ys t))
 refine ⟨h2.bel, h2.kp, h2.pl, h2.num, h2.st, h2.cl, fun r hr => ?_⟩
 rcases List.mem_cons.1 hr with rfl | hr
 ·exact ⟨Bk.new w ys t hq, by have := h.kp.size; show _ ≤ q; omega⟩
 ·exact h2.blk r hr
theorem SC.got {A : Option Addr} {n c a : Nat} (h : Hid (SC W0 w0 w g xs l bs)) (hm : (A, n, c, a) ∈ l) : Num w w.heap.size A n c a := h.out.num _ hm
theorem SC.all11 {x0 x1 x2 x3 x4 x5 x6 x7 x8 x9 x10 : Value} (h : Hid (SC W0 w0 w g #[x0, x1, x2, x3, x4, x5, x6, x7, x8, x9, x10] l bs)) : w.cell? ⟨g, 0, none⟩ = some x0 ∧ w.cell? ⟨g, 1, none⟩ = some x1 ∧ w.cell? ⟨g, 2, none⟩ = some x2 ∧ w.cell? ⟨g, 3, none⟩ = some x3 ∧ w.cell? ⟨g, 4, none⟩ = some x4 ∧ w.cell? ⟨g, 5, none⟩ = some x5 ∧ w.cell? ⟨g, 6, none⟩ = some x6 ∧ w.cell? ⟨g, 7, none⟩ = some x7 ∧ w.cell? ⟨g, 8, none⟩ = some x8 ∧ w.cell? ⟨g, 9, none⟩ = some x9 ∧ w.cell? ⟨g, 10, none⟩ = some x10 ∧ w.frozen? ⟨g, 0, none⟩ = false ∧ w.frozen? ⟨g, 1, none⟩ = false ∧ w.frozen? ⟨g, 2, none⟩ = false ∧ w.frozen? ⟨g, 3, none⟩ = false ∧ w.frozen? ⟨g, 4, none⟩ = false ∧ w.frozen? ⟨g, 5, none⟩ = false ∧ w.frozen? ⟨g, 6, none⟩ = false ∧ w.frozen? ⟨g, 7, none⟩ = false ∧ w.frozen? ⟨g, 8, none⟩ = false ∧ w.frozen? ⟨g, 9, none⟩ = false ∧ w.frozen? ⟨g, 10, none⟩ = false ∧ g < w.heap.size :=
 ⟨(h.out.st.cell 0).trans rfl, (h.out.st.cell 1).trans rfl, (h.out.st.cell 2).trans rfl, (h.out.st.cell 3).trans rfl, (h.out.st.cell 4).trans rfl, (h.out.st.cell 5).trans rfl, (h.out.st.cell 6).trans rfl, (h.out.st.cell 7).trans rfl, (h.out.st.cell 8).trans rfl, (h.out.st.cell 9).trans rfl, (h.out.st.cell 10).trans rfl, h.out.st.fz 0, h.out.st.fz 1, h.out.st.fz 2, h.out.st.fz 3, h.out.st.fz 4, h.out.st.fz 5, h.out.st.fz 6, h.out.st.fz 7, h.out.st.fz 8, h.out.st.fz 9, h.out.st.fz 10, h.out.st.lt⟩
theorem SC.all4 {q : Nat} {t : TypeId} {x0 x1 x2 x3 : Value} (h : Hid (SC W0 w0 w g xs l bs)) (hm : (q, #[x0, x1, x2, x3], t) ∈ bs) : w.cell? ⟨q, 0, none⟩ = some x0 ∧ w.cell? ⟨q, 1, none⟩ = some x1 ∧ w.cell? ⟨q, 2, none⟩ = some x2 ∧ w.cell? ⟨q, 3, none⟩ = some x3 ∧ q < w.heap.size :=
 ⟨((h.out.blk _ hm).1.cell 0).trans rfl, ((h.out.blk _ hm).1.cell 1).trans rfl, ((h.out.blk _ hm).1.cell 2).trans rfl, ((h.out.blk _ hm).1.cell 3).trans rfl, (h.out.blk _ hm).1.lt⟩
end
def outI : (Nat × Nat) ⊕ (Co × Nat) → Co → Nat → Nat → Prop
 | .inl (e, p), _, a, x => x = e ∧ a = p
 | .inr (c, p), d, a, x => x = 0 ∧ a = p ∧ d = c
def RetI (w : World) (g : Nat) (R : (Nat × Nat) ⊕ (Co × Nat)) (e : Ending) (w' : World) : Prop :=
 ∃ (c : Co) (A : Option Addr) (n k a x : Nat), e = .returned (.tuple #[.int .i64 (a : Int), .int .i64 (x : Int)]) ∧ Num w' w'.heap.size A n k c.un.i.natAbs ∧ Bk w' g (cK c A n k) 40 ∧ Kp g none w w' ∧ outI R c a x
theorem cl_K (c : Co) (A : Option Addr) (n k : Nat) : Cl (cK c A n k) := Cl.mk (cl_cons (noLimb_bool _) (cl_cons (noLimb_bool _) (cl_cons (noLimb_bool _) (cl_cons (noLimb_bool _) (cl_cons (noLimb_slice _ _ _) (cl_cons (noLimb_int _) (cl_cons (noLimb_str _) (cl_cons (noLimb_int _) (cl_cons (noLimb_int _) (cl_cons (noLimb_int _) (cl_cons (noLimb_str _) cl_nil)))))))))))
theorem SC.setNum {W0 w0 w : World} {g : Nat} {l : List (Option Addr × Nat × Nat × Nat)} {bs : List (Nat × Array Value × TypeId)} {x0 x1 x2 x3 x4 x5 x6 x7 x8 x9 x10 : Value} (h : SC W0 w0 w g #[x0, x1, x2, x3, x4, x5, x6, x7, x8, x9, x10] l bs) (y2 : Value) (y3 : Value) (y4 : Value) (y5 : Value) (y6 : Value) (hc : Cl #[x0, x1, y2, y3, y4, y5, y6, x7, x8, x9, x10]) : SC W0 w0 (World.setCell (World.setCell (World.setCell (World.setCell (World.setCell w ⟨g, 2, none⟩ y2) ⟨g, 3, none⟩ y3) ⟨g, 4, none⟩ y4) ⟨g, 5, none⟩ y5) ⟨g, 6, none⟩ y6) g #[x0, x1, y2, y3, y4, y5, y6, x7, x8, x9, x10] l bs := by
 have b0 := h.st
 have b1 : Bk (World.setCell w ⟨g, 2, none⟩ y2) g #[x0, x1, y2, x3, x4, x5, x6, x7, x8, x9, x10] 40 := b0.set 2 y2
 have b2 : Bk (World.setCell (World.setCell w ⟨g, 2, none⟩ y2) ⟨g, 3, none⟩ y3) g #[x0, x1, y2, y3, x4, x5, x6, x7, x8, x9, x10] 40 := b1.set 3 y3
 have b3 : Bk (World.setCell (World.setCell (World.setCell w ⟨g, 2, none⟩ y2) ⟨g, 3, none⟩ y3) ⟨g, 4, none⟩ y4) g #[x0, x1, y2, y3, y4, x5, x6, x7, x8, x9, x10] 40 := b2.set 4 y4
 have b4 : Bk (World.setCell (World.setCell (World.setCell (World.setCell w ⟨g, 2, none⟩ y2) ⟨g, 3, none⟩ y3) ⟨g, 4, none⟩ y4) ⟨g, 5, none⟩ y5) g #[x0, x1, y2, y3, y4, y5, x6, x7, x8, x9, x10] 40 := b3.set 5 y5
 have b5 : Bk (World.setCell (World.setCell (World.setCell (World.setCell (World.setCell w ⟨g, 2, none⟩ y2) ⟨g, 3, none⟩ y3) ⟨g, 4, none⟩ y4) ⟨g, 5, none⟩ y5) ⟨g, 6, none⟩ y6) g #[x0, x1, y2, y3, y4, y5, y6, x7, x8, x9, x10] 40 := b4.set 6 y6
 exact h.turn (kp_trans (kp_trans (kp_trans (kp_trans (kp_set w g 2 y2) (kp_set _ g 3 y3)) (kp_set _ g 4 y4)) (kp_set _ g 5 y5)) (kp_set _ g 6 y6)) b5 hc
theorem SC.setCur {W0 w0 w : World} {g : Nat} {l : List (Option Addr × Nat × Nat × Nat)} {bs : List (Nat × Array Value × TypeId)} {x0 x1 x2 x3 x4 x5 x6 x7 x8 x9 x10 : Value} (h : SC W0 w0 w g #[x0, x1, x2, x3, x4, x5, x6, x7, x8, x9, x10] l bs) (y6 : Value) (hc : Cl #[x0, x1, x2, x3, x4, x5, y6, x7, x8, x9, x10]) : SC W0 w0 (World.setCell w ⟨g, 6, none⟩ y6) g #[x0, x1, x2, x3, x4, x5, y6, x7, x8, x9, x10] l bs := by
 have b0 := h.st
 have b1 : Bk (World.setCell w ⟨g, 6, none⟩ y6) g #[x0, x1, x2, x3, x4, x5, y6, x7, x8, x9, x10] 40 := b0.set 6 y6
 exact h.turn (kp_set w g 6 y6) b1 hc
theorem SC.setLab {W0 w0 w : World} {g : Nat} {l : List (Option Addr × Nat × Nat × Nat)} {bs : List (Nat × Array Value × TypeId)} {x0 x1 x2 x3 x4 x5 x6 x7 x8 x9 x10 : Value} (h : SC W0 w0 w g #[x0, x1, x2, x3, x4, x5, x6, x7, x8, x9, x10] l bs) (y10 : Value) (hc : Cl #[x0, x1, x2, x3, x4, x5, x6, x7, x8, x9, y10]) : SC W0 w0 (World.setCell w ⟨g, 10, none⟩ y10) g #[x0, x1, x2, x3, x4, x5, x6, x7, x8, x9, y10] l bs := by
 have b0 := h.st
 have b1 : Bk (World.setCell w ⟨g, 10, none⟩ y10) g #[x0, x1, x2, x3, x4, x5, x6, x7, x8, x9, y10] 40 := b0.set 10 y10
 exact h.turn (kp_set w g 10 y10) b1 hc
theorem SC.setDay {W0 w0 w : World} {g : Nat} {l : List (Option Addr × Nat × Nat × Nat)} {bs : List (Nat × Array Value × TypeId)} {x0 x1 x2 x3 x4 x5 x6 x7 x8 x9 x10 : Value} (h : SC W0 w0 w g #[x0, x1, x2, x3, x4, x5, x6, x7, x8, x9, x10] l bs) (y7 : Value) (y8 : Value) (y9 : Value) (hc : Cl #[x0, x1, x2, x3, x4, x5, x6, y7, y8, y9, x10]) : SC W0 w0 (World.setCell (World.setCell (World.setCell w ⟨g, 7, none⟩ y7) ⟨g, 8, none⟩ y8) ⟨g, 9, none⟩ y9) g #[x0, x1, x2, x3, x4, x5, x6, y7, y8, y9, x10] l bs := by
 have b0 := h.st
 have b1 : Bk (World.setCell w ⟨g, 7, none⟩ y7) g #[x0, x1, x2, x3, x4, x5, x6, y7, x8, x9, x10] 40 := b0.set 7 y7
 have b2 : Bk (World.setCell (World.setCell w ⟨g, 7, none⟩ y7) ⟨g, 8, none⟩ y8) g #[x0, x1, x2, x3, x4, x5, x6, y7, y8, x9, x10] 40 := b1.set 8 y8
 have b3 : Bk (World.setCell (World.setCell (World.setCell w ⟨g, 7, none⟩ y7) ⟨g, 8, none⟩ y8) ⟨g, 9, none⟩ y9) g #[x0, x1, x2, x3, x4, x5, x6, y7, y8, y9, x10] 40 := b2.set 9 y9
 exact h.turn (kp_trans (kp_trans (kp_set w g 7 y7) (kp_set _ g 8 y8)) (kp_set _ g 9 y9)) b3 hc
def itA (L : List Tok) (c : Co) (a : Nat) : (Nat × Nat) ⊕ (Co × Nat) := match amt L a with
 | .inl e => .inl e
 | .inr (i, k, x, b) => .inr (⟨c.tot, ⟨true, i, k, x⟩, c.day, c.lab⟩, b)
theorem itA_bad {L : List Tok} {c : Co} {a : Nat} {va : VA} {pa ea : Nat} (h : resA (amt L a) = (va, pa, ea)) (he : ea ≠ 0) : itA L c a = .inl (ea, pa) := by
 unfold itA
 cases hq : amt L a with
 | inl q => obtain ⟨z, y⟩ := q; rw [hq] at h; cases h; rfl
 | inr q => obtain ⟨x, k, s, y⟩ := q; rw [hq] at h; exact absurd (congrArg (fun x => x.2.2) h).symm he
theorem itA_good {L : List Tok} {c : Co} {a : Nat} {va : VA} {pa ea : Nat} (h : resA (amt L a) = (va, pa, ea)) (he : ea = 0) : itA L c a = .inr (⟨c.tot, ⟨true, va.i, va.k, va.s⟩, c.day, c.lab⟩, pa) := by
 unfold itA
 cases hq : amt L a with
 | inl q => obtain ⟨z, y⟩ := q; have hz := amt_bad hq; rw [hq] at h; exact absurd ((congrArg (fun x => x.2.2) h).trans he) hz
 | inr q => obtain ⟨x, k, s, y⟩ := q; rw [hq] at h; cases h; rfl
theorem addamount_is {W0 w : World} {B n c i g : Nat} {A : Option Addr} {L : List Tk4} {G : Nat → Nat → Int → Nat → Prop} (hr : RdK W0 B A n c L) (hB : B ≤ W0.heap.size) (hn : n ≤ 400) (hL : Siz (L.map tok) G) (hok : Ok12 W0) (hb0 : Below W0.heap.size W0 w) (hg : W0.heap.size ≤ g) {co : Co} {A1 : Option Addr} {n1 c1 : Nat} (hc : Bk w g (cK co A1 n1 c1) 40) (hm : Num w w.heap.size A1 n1 c1 co.un.i.natAbs) (hi : i ≤ n) : Calls Tryz.prog 45 #[.pointer (some ⟨g, 0, none⟩), .slice A n c, .int .i64 (i : Int)] w (RetI w g (itA (L.map tok) co i)) := by
 have hlen := hr.len
 have RD : Hid (∀ {W : World}, Below W0.heap.size W0 W → RdK W B A n c L) := fun hb => hr.on hB hb
 have OK : Hid (∀ {W : World}, Below W0.heap.size W0 W → Ok12 W) := fun hb => okw12 hok hb
 have E := Lib.hid ((SC.start hb0 hg hc (cl_K _ _ _ _)).more hm)
 have HB := Lib.hid hB
 have HLEN := Lib.hid hlen
 obtain ⟨tot, ⟨has, ci, ck, cur⟩, ⟨y, m, d⟩, lab⟩ := co
 obtain ⟨⟨va, pa, ea⟩, hA⟩ : ∃ x, resA (amt (L.map tok) i) = x := ⟨_, rfl⟩
 have AM : Hid (∀ {W : World}, Below W0.heap.size W0 W → Calls Tryz.prog 17 #[.slice A n c, .int .i64 (i : Int)] W (RvA W va pa ea)) := fun hb => amount_at (RD.out hb) (Nat.le_trans hB hb.size) hn hL (OK.out hb) hi hA
 have HBAD : Hid (ea ≠ 0 → itA (L.map tok) ⟨tot, ⟨has, ci, ck, cur⟩, (y, m, d), lab⟩ i = .inl (ea, pa)) := itA_bad hA
 have HGOOD : Hid (ea = 0 → itA (L.map tok) ⟨tot, ⟨has, ci, ck, cur⟩, (y, m, d), lab⟩ i = .inr (⟨tot, ⟨true, va.i, va.k, va.s⟩, (y, m, d), lab⟩, pa)) := itA_good hA
 clear hA hr hok hlen hB hb0 hc hm
 go_enter Tryz.func45, Tryz.ntmps45
 go_wp2_with fail
 refine (AM.out E.out.bel).mono ?_; rintro e1 w4 ⟨A9, n9, c9, rfl, hnum, hb⟩
 replace E := Lib.hid (E.out.push hb hnum); clear hb hnum
 by_cases he : ea = 0
 ·have HA := Lib.hid (HGOOD.out he)
  have de : ((ea : Int) == 0) = true := by rw [he]; rfl
  have he0 := Lib.hid he
  clear he
  go_wp2_with fail
  replace E := Lib.hid (E.out.lay #[.bool (ngB va.i), .slice A9 n9 c9, .int .i64 (va.k : Int), .string va.s] 56 (q := w4.heap.size) rfl)
  obtain ⟨g2, hg2⟩ : ∃ g, w4.heap.size = g := ⟨_, rfl⟩
  rw [hg2] at E ⊢
  clear hg2
  generalize hW : World.alloc w4 _ = W3 at E ⊢
  clear hW
  obtain ⟨r0, r1, r2, r3, r4, r5, r6, r7, r8, r9, r10, rf0, rf1, rf2, rf3, rf4, rf5, rf6, rf7, rf8, rf9, rf10, rlt⟩ := SC.all11 E
  obtain ⟨p0, p1, p2, p3, plt⟩ := SC.all4 (q := g2) (t := 56) (x0 := .bool (ngB va.i)) (x1 := .slice A9 n9 c9) (x2 := .int .i64 (va.k : Int)) (x3 := .string va.s) E (by simp)
  have hgg : g2 ≠ g := by have h1 := (E.out.blk _ (List.mem_cons_self ..)).2; have h2 := E.out.pl.2; dsimp only at h1; omega
  have hgg2 : g ≠ g2 := fun h => hgg h.symm
  go_region
  clear p0 p1 p2 p3 plt
  clear r0 r1 r2 r3 r4 r5 r6 r7 r8 r9 r10 rf0 rf1 rf2 rf3 rf4 rf5 rf6 rf7 rf8 rf9 rf10 rlt
  go_wp2_with fail
  have EF := Lib.hid ((SC.setNum (x0 := .bool true) (x1 := .bool tot) (x2 := .bool has) (x3 := .bool (ngB ci)) (x4 := .slice A1 n1 c1) (x5 := .int .i64 (ck : Int)) (x6 := .string cur) (x7 := .int .i64 y) (x8 := .int .i64 m) (x9 := .int .i64 d) (x10 := .string lab) E.out (.bool true) (.bool (ngB va.i)) (.slice A9 n9 c9) (.int .i64 (va.k : Int)) (.string va.s) (Cl.mk (cl_cons (noLimb_bool _) (cl_cons (noLimb_bool _) (cl_cons (noLimb_bool _) (cl_cons (noLimb_bool _) (cl_cons (noLimb_slice _ _ _) (cl_cons (noLimb_int _) (cl_cons (noLimb_str _) (cl_cons (noLimb_int _) (cl_cons (noLimb_int _) (cl_cons (noLimb_int _) (cl_cons (noLimb_str _) cl_nil))))))))))))).step (Below.refl _ _).drew)
  go_ret2
  exact ⟨⟨tot, ⟨true, va.i, va.k, va.s⟩, (y, m, d), lab⟩, A9, n9, c9, pa, ea, rfl, SC.got EF (by simp), EF.out.st, EF.out.kp, by rw [HA.out]; exact ⟨he0.out, rfl, rfl⟩⟩
 ·have HA := Lib.hid (HBAD.out he)
  have de : ((ea : Int) == 0) = false := by rw [beq_eq_false_iff_ne]; omega
  clear he
  go_wp2_with fail
  have EF := Lib.hid (E.out.lay #[.bool (ngB va.i), .slice A9 n9 c9, .int .i64 (va.k : Int), .string va.s] 56 (q := w4.heap.size) rfl)
  go_ret2
  exact ⟨⟨tot, ⟨has, ci, ck, cur⟩, (y, m, d), lab⟩, A1, n1, c1, pa, ea, rfl, SC.got EF (by simp), EF.out.st, EF.out.kp, by rw [HA.out]; exact ⟨rfl, rfl⟩⟩
theorem emp_facts {s : ByteArray} (h : bs9 s = []) : (s.toList == []) = true ∧ s.toList.isEmpty = true := by
 have e : s.size = 0 := by rw [← bs9_len, h]; rfl
 exact ⟨lit_yes (l := []) h, emp_yes e⟩
theorem emp_nots {s : ByteArray} (h : bs9 s ≠ []) : (s.toList == []) = false ∧ s.toList.isEmpty = false := by
 have e : 0 < s.size := by
  rcases Nat.eq_zero_or_pos s.size with h0 | h0
  ·exact absurd (nil_of h0) h
  ·exact h0
 exact ⟨lit_not (l := []) h, emp_not e⟩
section
variable {L : List Tok} {a : Nat} {c : Co} {t : Tok}
theorem itm_no (h : L[a]? = none) : itm L c a = .inl (2, a) := by unfold itm; rw [h]
theorem itm_d (h : L[a]? = some t) (h1 : t.1 = 1) (hd : c.day = (0, 0, 0)) : itm L c a = .inr (⟨c.tot, c.un, pday t.2, c.lab⟩, a + 1) := by unfold itm; rw [h]; dsimp only; rw [if_pos ⟨h1, hd⟩]
theorem itm_l (h : L[a]? = some t) (h1 : t.1 = 5) (hd : bs9 c.lab = []) (ht : bs9 t.2 ≠ []) : itm L c a = .inr (⟨c.tot, c.un, c.day, t.2⟩, a + 1) := by unfold itm; rw [h]; dsimp only; rw [if_neg (by rw [h1]; omega), if_pos ⟨h1, hd, ht⟩]
theorem itm_c (h : L[a]? = some t) (h1 : t.1 = 3) (hd : bs9 c.un.cur = []) : itm L c a = .inr (⟨c.tot, ⟨c.un.has, c.un.i, c.un.k, t.2⟩, c.day, c.lab⟩, a + 1) := by unfold itm; rw [h]; dsimp only; rw [if_neg (by rw [h1]; omega), if_neg (by rw [h1]; omega), if_pos ⟨h1, hd⟩]
theorem itm_a (h : L[a]? = some t) (h1 : t.1 ≠ 1) (h5 : t.1 ≠ 5) (h3 : t.1 ≠ 3) (hs : sta t = true) (hd : bs9 c.un.cur = []) : itm L c a = itA L c a := by unfold itm; rw [h]; dsimp only; rw [if_neg (fun q => h1 q.1), if_neg (fun q => h5 q.1), if_neg (fun q => h3 q.1), if_pos ⟨hs, hd⟩]; rfl
theorem itm_x (h : L[a]? = some t) (h1 : ¬ (t.1 = 1 ∧ c.day = (0, 0, 0))) (h5 : ¬ (t.1 = 5 ∧ bs9 c.lab = [] ∧ bs9 t.2 ≠ [])) (h3 : ¬ (t.1 = 3 ∧ bs9 c.un.cur = [])) (hs : ¬ (sta t = true ∧ bs9 c.un.cur = [])) : itm L c a = .inl (3, a) := by unfold itm; rw [h]; dsimp only; rw [if_neg h1, if_neg h5, if_neg h3, if_neg hs]
theorem sta_k (h4 : t.1 ≠ 4) (h10 : t.1 ≠ 10) : sta t = false := by
 unfold sta isg
 rw [decide_eq_false h4, decide_eq_false h10]; rfl
end
theorem addpart_is {W0 w : World} {B n c i g : Nat} {A : Option Addr} {L : List Tk4} {G : Nat → Nat → Int → Nat → Prop} (hr : RdK W0 B A n c L) (hB : B ≤ W0.heap.size) (hn : n ≤ 400) (hL : Siz (L.map tok) G) (hok : Ok12 W0) (hb0 : Below W0.heap.size W0 w) (hg : W0.heap.size ≤ g) {co : Co} {A1 : Option Addr} {n1 c1 : Nat} (hc : Bk w g (cK co A1 n1 c1) 40) (hm : Num w w.heap.size A1 n1 c1 co.un.i.natAbs) (hi : i ≤ n) : Calls Tryz.prog 27 #[.pointer (some ⟨g, 0, none⟩), .slice A n c, .int .i64 (i : Int)] w (RetI w g (itm (L.map tok) co i)) := by
 have hlen := hr.len
 have RD : Hid (∀ {W : World}, Below W0.heap.size W0 W → RdK W B A n c L) := fun hb => hr.on hB hb
 have OK : Hid (∀ {W : World}, Below W0.heap.size W0 W → Ok12 W) := fun hb => okw12 hok hb
 have E := Lib.hid ((SC.start hb0 hg hc (cl_K _ _ _ _)).more hm)
 have HB := Lib.hid hB
 have HLEN := Lib.hid hlen
 obtain ⟨tot, ⟨has, ci, ck, cur⟩, ⟨y, m, d⟩, lab⟩ := co
 have CA : Hid (∀ {W : World}, SC W0 w W g (cK ⟨tot, ⟨has, ci, ck, cur⟩, (y, m, d), lab⟩ A1 n1 c1) [(A1, n1, c1, ci.natAbs)] [] → Calls Tryz.prog 45 #[.pointer (some ⟨g, 0, none⟩), .slice A n c, .int .i64 (i : Int)] W (RetI W g (itA (L.map tok) ⟨tot, ⟨has, ci, ck, cur⟩, (y, m, d), lab⟩ i))) := fun h => addamount_is hr hB hn hL hok h.bel h.pl.1 h.st (h.num _ List.mem_cons_self) hi
 have HTX : Hid (∀ t ∈ L.map tok, t.2.size ≤ 6000) := fun t ht => hL.txt t ht
 clear hok hb0 hg hc hm hr
 by_cases hin : i = n
 ·have d0 : ((i : Int) == (n : Int)) = true := by rw [beq_iff_eq]; omega
  have HA : Hid (itm (L.map tok) ⟨tot, ⟨has, ci, ck, cur⟩, (y, m, d), lab⟩ i = .inl (2, i)) := itm_no (List.getElem?_eq_none (by rw [List.length_map]; omega))
  clear hin hlen
  go_enter Tryz.func27, Tryz.ntmps27
  go_wp2_with fail
  have EF := E
  go_ret2
  exact ⟨⟨tot, ⟨has, ci, ck, cur⟩, (y, m, d), lab⟩, A1, n1, c1, i, 2, rfl, SC.got EF (by simp), EF.out.st, EF.out.kp, by rw [HA.out]; exact ⟨rfl, rfl⟩⟩
 ·have d0 : ((i : Int) == (n : Int)) = false := by rw [beq_eq_false_iff_ne]; omega
  obtain ⟨t, ht⟩ : ∃ t, L[i]? = some t := ⟨_, List.getElem?_eq_getElem (by omega)⟩
  obtain ⟨qq, uu, rfl, -, -, hq, hbl, a0, a1, a2, a3⟩ := (RD.out E.out.bel).at_ ht
  obtain ⟨k, T, l, p⟩ := t
  have htt : (L.map tok)[i]? = some (k, T) := by rw [List.getElem?_map, ht]; rfl
  have hTs : T.size ≤ 6000 := HTX.out (k, T) (List.mem_of_getElem? htt)
  have hqs : qq < w.heap.size := by have := E.out.bel.size; have := HB.out; omega
  have hgq : qq ≠ g := by have := E.out.pl.1; have := HB.out; omega
  have hgq2 : g ≠ qq := fun h => hgq h.symm
  have d3 : decide (i < n) = true := decide_eq_true hbl
  have d4 : (0 : Int) ≤ (i : Int) := by omega
  have d5 : (i : Int) < (n : Int) := by omega
  obtain ⟨i1, hi1⟩ : ∃ x, i + 1 = x := ⟨_, rfl⟩
  have ei : (i : Int) + 1 = (i1 : Int) := by omega
  clear ht hlen
  by_cases hk : k = 1
  ·have hs : sta (k, T) = false := sta_k (by show k ≠ 4; omega) (by show k ≠ 10; omega)
   have k1 : (k == 1) = true := by rw [beq_iff_eq]; exact hk
   have k5 : (k == 5) = false := by rw [beq_eq_false_iff_ne]; omega
   have k3 : (k == 3) = false := by rw [beq_eq_false_iff_ne]; omega
   by_cases hd : (y, m, d) = ((0, 0, 0) : Int × Int × Int)
   ·have HD := Lib.hid hd
    have y0 : (y == 0) = true := by rw [beq_iff_eq]; exact congrArg Prod.fst hd
    have m0 : (m == 0) = true := by rw [beq_iff_eq]; exact congrArg (fun x => x.2.1) hd
    have d00 : (d == 0) = true := by rw [beq_iff_eq]; exact congrArg (fun x => x.2.2) hd
    obtain ⟨⟨y1, m1, e1⟩, hp⟩ : ∃ x, pday T = x := ⟨_, rfl⟩
    have HA : Hid (itm (L.map tok) ⟨tot, ⟨has, ci, ck, cur⟩, (y, m, d), lab⟩ i = .inr (⟨tot, ⟨has, ci, ck, cur⟩, (y1, m1, e1), lab⟩, i1)) := by show _ = _; rw [itm_d htt hk hd, hi1, hp]
    have PD : Hid (∀ {W : World}, Ok12 W → Calls Tryz.prog 44 #[.string T] W (fun e w' => ∃ z : Nat, e = .returned (.tuple #[.agg #[.int .i64 y1, .int .i64 m1, .int .i64 e1], .int .i64 (z : Int)]) ∧ Below W.heap.size W w')) := fun h => pday_is h hTs hp
    clear hk hd hs hi1 hp htt hTs
    obtain ⟨r0, r1, r2, r3, r4, r5, r6, r7, r8, r9, r10, rf0, rf1, rf2, rf3, rf4, rf5, rf6, rf7, rf8, rf9, rf10, rlt⟩ := SC.all11 E
    go_enter Tryz.func27, Tryz.ntmps27
    go_wp2_with fail
    refine (PD.out (OK.out E.out.bel)).mono ?_; rintro e2 w2 ⟨z, rfl, hb⟩
    clear a0 a1 a2 a3
    clear r0 r1 r2 r3 r4 r5 r6 r7 r8 r9 r10 rf0 rf1 rf2 rf3 rf4 rf5 rf6 rf7 rf8 rf9 rf10 rlt
    replace E := Lib.hid (E.out.step hb); clear hb
    obtain ⟨r0, r1, r2, r3, r4, r5, r6, r7, r8, r9, r10, rf0, rf1, rf2, rf3, rf4, rf5, rf6, rf7, rf8, rf9, rf10, rlt⟩ := SC.all11 E
    go_wp2_with fail
    clear r0 r1 r2 r3 r4 r5 r6 r7 r8 r9 r10 rf0 rf1 rf2 rf3 rf4 rf5 rf6 rf7 rf8 rf9 rf10 rlt
    have EF := Lib.hid (SC.setDay (x0 := .bool true) (x1 := .bool tot) (x2 := .bool has) (x3 := .bool (ngB ci)) (x4 := .slice A1 n1 c1) (x5 := .int .i64 (ck : Int)) (x6 := .string cur) (x7 := .int .i64 y) (x8 := .int .i64 m) (x9 := .int .i64 d) (x10 := .string lab) E.out (.int .i64 y1) (.int .i64 m1) (.int .i64 e1) (Cl.mk (cl_cons (noLimb_bool _) (cl_cons (noLimb_bool _) (cl_cons (noLimb_bool _) (cl_cons (noLimb_bool _) (cl_cons (noLimb_slice _ _ _) (cl_cons (noLimb_int _) (cl_cons (noLimb_str _) (cl_cons (noLimb_int _) (cl_cons (noLimb_int _) (cl_cons (noLimb_int _) (cl_cons (noLimb_str _) cl_nil)))))))))))))
    go_ret2
    exact ⟨⟨tot, ⟨has, ci, ck, cur⟩, (y1, m1, e1), lab⟩, A1, n1, c1, i1, 0, rfl, SC.got EF (by simp), EF.out.st, EF.out.kp, by rw [HA.out]; exact ⟨rfl, rfl, rfl⟩⟩
   ·have HA : Hid (itm (L.map tok) ⟨tot, ⟨has, ci, ck, cur⟩, (y, m, d), lab⟩ i = .inl (3, i)) := itm_x (t := (k, T)) htt (fun q => hd q.2) (fun q => by have := q.1; dsimp only at this; omega) (fun q => by have := q.1; dsimp only at this; omega) (fun q => by rw [hs] at q; exact Bool.noConfusion q.1)
    have STA := Lib.hid (hs : sta (k, T) = false)
    have hz : (y == 0) = false ∨ ((y == 0) = true ∧ (m == 0) = false) ∨ ((y == 0) = true ∧ (m == 0) = true ∧ (d == 0) = false) := by
     by_cases q0 : y = 0
     ·by_cases q1 : m = 0
      ·exact .inr (.inr ⟨by rw [beq_iff_eq]; exact q0, by rw [beq_iff_eq]; exact q1, by rw [beq_eq_false_iff_ne]; intro q2; exact hd (by rw [q0, q1, q2])⟩)
      ·exact .inr (.inl ⟨by rw [beq_iff_eq]; exact q0, by rw [beq_eq_false_iff_ne]; exact q1⟩)
     ·exact .inl (by rw [beq_eq_false_iff_ne]; exact q0)
    clear hk hd hs hi1 htt hTs
    rcases hz with y0 | ⟨y0, m0⟩ | ⟨y0, m0, d00⟩
    all_goals
     obtain ⟨r0, r1, r2, r3, r4, r5, r6, r7, r8, r9, r10, rf0, rf1, rf2, rf3, rf4, rf5, rf6, rf7, rf8, rf9, rf10, rlt⟩ := SC.all11 E
     go_enter Tryz.func27, Tryz.ntmps27
     go_wp2_with fail
     refine (pstarts STA.out l p).mono ?_; rintro e1 w2 ⟨rfl, hb⟩
     clear a0 a1 a2 a3
     clear r0 r1 r2 r3 r4 r5 r6 r7 r8 r9 r10 rf0 rf1 rf2 rf3 rf4 rf5 rf6 rf7 rf8 rf9 rf10 rlt
     replace E := Lib.hid (E.out.step hb); clear hb
     obtain ⟨r0, r1, r2, r3, r4, r5, r6, r7, r8, r9, r10, rf0, rf1, rf2, rf3, rf4, rf5, rf6, rf7, rf8, rf9, rf10, rlt⟩ := SC.all11 E
     go_wp2_with fail
     clear r0 r1 r2 r3 r4 r5 r6 r7 r8 r9 r10 rf0 rf1 rf2 rf3 rf4 rf5 rf6 rf7 rf8 rf9 rf10 rlt
     have EF := E
     go_ret2
     exact ⟨⟨tot, ⟨has, ci, ck, cur⟩, (y, m, d), lab⟩, A1, n1, c1, i, 3, rfl, SC.got EF (by simp), EF.out.st, EF.out.kp, by rw [HA.out]; exact ⟨rfl, rfl⟩⟩
  by_cases hk5 : k = 5
  ·have hk' := hk5
   clear hk hk5
   have hk := hk'
   clear hk'
   have hs : sta (k, T) = false := sta_k (by show k ≠ 4; omega) (by show k ≠ 10; omega)
   have k1 : (k == 1) = false := by rw [beq_eq_false_iff_ne]; omega
   have k5 : (k == 5) = true := by rw [beq_iff_eq]; exact hk
   have k3 : (k == 3) = false := by rw [beq_eq_false_iff_ne]; omega
   by_cases hT : bs9 T = []
   ·obtain ⟨t1, t2⟩ := emp_facts hT
    have HA : Hid (itm (L.map tok) ⟨tot, ⟨has, ci, ck, cur⟩, (y, m, d), lab⟩ i = .inl (3, i)) := itm_x (t := (k, T)) htt (fun q => by have := q.1; dsimp only at this; omega) (fun q => q.2.2 hT) (fun q => by have := q.1; dsimp only at this; omega) (fun q => by rw [hs] at q; exact Bool.noConfusion q.1)
    have STA := Lib.hid (hs : sta (k, T) = false)
    clear hk hs hi1 htt hTs hT
    obtain ⟨r0, r1, r2, r3, r4, r5, r6, r7, r8, r9, r10, rf0, rf1, rf2, rf3, rf4, rf5, rf6, rf7, rf8, rf9, rf10, rlt⟩ := SC.all11 E
    go_enter Tryz.func27, Tryz.ntmps27
    go_wp2_with fail
    refine (pstarts STA.out l p).mono ?_; rintro e1 w2 ⟨rfl, hb⟩
    clear a0 a1 a2 a3
    clear r0 r1 r2 r3 r4 r5 r6 r7 r8 r9 r10 rf0 rf1 rf2 rf3 rf4 rf5 rf6 rf7 rf8 rf9 rf10 rlt
    replace E := Lib.hid (E.out.step hb); clear hb
    obtain ⟨r0, r1, r2, r3, r4, r5, r6, r7, r8, r9, r10, rf0, rf1, rf2, rf3, rf4, rf5, rf6, rf7, rf8, rf9, rf10, rlt⟩ := SC.all11 E
    go_wp2_with fail
    clear r0 r1 r2 r3 r4 r5 r6 r7 r8 r9 r10 rf0 rf1 rf2 rf3 rf4 rf5 rf6 rf7 rf8 rf9 rf10 rlt
    have EF := E
    go_ret2
    exact ⟨⟨tot, ⟨has, ci, ck, cur⟩, (y, m, d), lab⟩, A1, n1, c1, i, 3, rfl, SC.got EF (by simp), EF.out.st, EF.out.kp, by rw [HA.out]; exact ⟨rfl, rfl⟩⟩
   ·obtain ⟨t1, t2⟩ := emp_nots hT
    by_cases hl : bs9 lab = []
    ·obtain ⟨l1, l2⟩ := emp_facts hl
     have HA : Hid (itm (L.map tok) ⟨tot, ⟨has, ci, ck, cur⟩, (y, m, d), lab⟩ i = .inr (⟨tot, ⟨has, ci, ck, cur⟩, (y, m, d), T⟩, i1)) := by show _ = _; rw [itm_l htt hk hl hT, hi1]
     clear hk hs hi1 htt hTs hT hl
     obtain ⟨r0, r1, r2, r3, r4, r5, r6, r7, r8, r9, r10, rf0, rf1, rf2, rf3, rf4, rf5, rf6, rf7, rf8, rf9, rf10, rlt⟩ := SC.all11 E
     go_enter Tryz.func27, Tryz.ntmps27
     go_wp2_with fail
     clear a0 a1 a2 a3
     clear r0 r1 r2 r3 r4 r5 r6 r7 r8 r9 r10 rf0 rf1 rf2 rf3 rf4 rf5 rf6 rf7 rf8 rf9 rf10 rlt
     have EF := Lib.hid (SC.setLab (x0 := .bool true) (x1 := .bool tot) (x2 := .bool has) (x3 := .bool (ngB ci)) (x4 := .slice A1 n1 c1) (x5 := .int .i64 (ck : Int)) (x6 := .string cur) (x7 := .int .i64 y) (x8 := .int .i64 m) (x9 := .int .i64 d) (x10 := .string lab) E.out (.string T) (Cl.mk (cl_cons (noLimb_bool _) (cl_cons (noLimb_bool _) (cl_cons (noLimb_bool _) (cl_cons (noLimb_bool _) (cl_cons (noLimb_slice _ _ _) (cl_cons (noLimb_int _) (cl_cons (noLimb_str _) (cl_cons (noLimb_int _) (cl_cons (noLimb_int _) (cl_cons (noLimb_int _) (cl_cons (noLimb_str _) cl_nil)))))))))))))
     go_ret2
     exact ⟨⟨tot, ⟨has, ci, ck, cur⟩, (y, m, d), T⟩, A1, n1, c1, i1, 0, rfl, SC.got EF (by simp), EF.out.st, EF.out.kp, by rw [HA.out]; exact ⟨rfl, rfl, rfl⟩⟩
    ·obtain ⟨l1, l2⟩ := emp_nots hl
     have HA : Hid (itm (L.map tok) ⟨tot, ⟨has, ci, ck, cur⟩, (y, m, d), lab⟩ i = .inl (3, i)) := itm_x (t := (k, T)) htt (fun q => by have := q.1; dsimp only at this; omega) (fun q => hl q.2.1) (fun q => by have := q.1; dsimp only at this; omega) (fun q => by rw [hs] at q; exact Bool.noConfusion q.1)
     have STA := Lib.hid (hs : sta (k, T) = false)
     clear hk hs hi1 htt hTs hT hl
     obtain ⟨r0, r1, r2, r3, r4, r5, r6, r7, r8, r9, r10, rf0, rf1, rf2, rf3, rf4, rf5, rf6, rf7, rf8, rf9, rf10, rlt⟩ := SC.all11 E
     go_enter Tryz.func27, Tryz.ntmps27
     go_wp2_with fail
     refine (pstarts STA.out l p).mono ?_; rintro e1 w2 ⟨rfl, hb⟩
     clear a0 a1 a2 a3
     clear r0 r1 r2 r3 r4 r5 r6 r7 r8 r9 r10 rf0 rf1 rf2 rf3 rf4 rf5 rf6 rf7 rf8 rf9 rf10 rlt
     replace E := Lib.hid (E.out.step hb); clear hb
     obtain ⟨r0, r1, r2, r3, r4, r5, r6, r7, r8, r9, r10, rf0, rf1, rf2, rf3, rf4, rf5, rf6, rf7, rf8, rf9, rf10, rlt⟩ := SC.all11 E
     go_wp2_with fail
     clear r0 r1 r2 r3 r4 r5 r6 r7 r8 r9 r10 rf0 rf1 rf2 rf3 rf4 rf5 rf6 rf7 rf8 rf9 rf10 rlt
     have EF := E
     go_ret2
     exact ⟨⟨tot, ⟨has, ci, ck, cur⟩, (y, m, d), lab⟩, A1, n1, c1, i, 3, rfl, SC.got EF (by simp), EF.out.st, EF.out.kp, by rw [HA.out]; exact ⟨rfl, rfl⟩⟩
  by_cases hk3 : k = 3
  ·have hk' := hk3
   clear hk hk5 hk3
   have hk := hk'
   clear hk'
   have hs : sta (k, T) = false := sta_k (by show k ≠ 4; omega) (by show k ≠ 10; omega)
   have k1 : (k == 1) = false := by rw [beq_eq_false_iff_ne]; omega
   have k5 : (k == 5) = false := by rw [beq_eq_false_iff_ne]; omega
   have k3 : (k == 3) = true := by rw [beq_iff_eq]; exact hk
   by_cases hl : bs9 cur = []
   ·obtain ⟨l1, l2⟩ := emp_facts hl
    have HA : Hid (itm (L.map tok) ⟨tot, ⟨has, ci, ck, cur⟩, (y, m, d), lab⟩ i = .inr (⟨tot, ⟨has, ci, ck, T⟩, (y, m, d), lab⟩, i1)) := by show _ = _; rw [itm_c htt hk hl, hi1]
    clear hk hs hi1 htt hTs hl
    obtain ⟨r0, r1, r2, r3, r4, r5, r6, r7, r8, r9, r10, rf0, rf1, rf2, rf3, rf4, rf5, rf6, rf7, rf8, rf9, rf10, rlt⟩ := SC.all11 E
    go_enter Tryz.func27, Tryz.ntmps27
    go_wp2_with fail
    clear a0 a1 a2 a3
    clear r0 r1 r2 r3 r4 r5 r6 r7 r8 r9 r10 rf0 rf1 rf2 rf3 rf4 rf5 rf6 rf7 rf8 rf9 rf10 rlt
    have EF := Lib.hid (SC.setCur (x0 := .bool true) (x1 := .bool tot) (x2 := .bool has) (x3 := .bool (ngB ci)) (x4 := .slice A1 n1 c1) (x5 := .int .i64 (ck : Int)) (x6 := .string cur) (x7 := .int .i64 y) (x8 := .int .i64 m) (x9 := .int .i64 d) (x10 := .string lab) E.out (.string T) (Cl.mk (cl_cons (noLimb_bool _) (cl_cons (noLimb_bool _) (cl_cons (noLimb_bool _) (cl_cons (noLimb_bool _) (cl_cons (noLimb_slice _ _ _) (cl_cons (noLimb_int _) (cl_cons (noLimb_str _) (cl_cons (noLimb_int _) (cl_cons (noLimb_int _) (cl_cons (noLimb_int _) (cl_cons (noLimb_str _) cl_nil)))))))))))))
    go_ret2
    exact ⟨⟨tot, ⟨has, ci, ck, T⟩, (y, m, d), lab⟩, A1, n1, c1, i1, 0, rfl, SC.got EF (by simp), EF.out.st, EF.out.kp, by rw [HA.out]; exact ⟨rfl, rfl, rfl⟩⟩
   ·obtain ⟨l1, l2⟩ := emp_nots hl
    have HA : Hid (itm (L.map tok) ⟨tot, ⟨has, ci, ck, cur⟩, (y, m, d), lab⟩ i = .inl (3, i)) := itm_x (t := (k, T)) htt (fun q => by have := q.1; dsimp only at this; omega) (fun q => by have := q.1; dsimp only at this; omega) (fun q => hl q.2) (fun q => by rw [hs] at q; exact Bool.noConfusion q.1)
    have STA := Lib.hid (hs : sta (k, T) = false)
    clear hk hs hi1 htt hTs hl
    obtain ⟨r0, r1, r2, r3, r4, r5, r6, r7, r8, r9, r10, rf0, rf1, rf2, rf3, rf4, rf5, rf6, rf7, rf8, rf9, rf10, rlt⟩ := SC.all11 E
    go_enter Tryz.func27, Tryz.ntmps27
    go_wp2_with fail
    refine (pstarts STA.out l p).mono ?_; rintro e1 w2 ⟨rfl, hb⟩
    clear a0 a1 a2 a3
    clear r0 r1 r2 r3 r4 r5 r6 r7 r8 r9 r10 rf0 rf1 rf2 rf3 rf4 rf5 rf6 rf7 rf8 rf9 rf10 rlt
    replace E := Lib.hid (E.out.step hb); clear hb
    obtain ⟨r0, r1, r2, r3, r4, r5, r6, r7, r8, r9, r10, rf0, rf1, rf2, rf3, rf4, rf5, rf6, rf7, rf8, rf9, rf10, rlt⟩ := SC.all11 E
    go_wp2_with fail
    clear r0 r1 r2 r3 r4 r5 r6 r7 r8 r9 r10 rf0 rf1 rf2 rf3 rf4 rf5 rf6 rf7 rf8 rf9 rf10 rlt
    have EF := E
    go_ret2
    exact ⟨⟨tot, ⟨has, ci, ck, cur⟩, (y, m, d), lab⟩, A1, n1, c1, i, 3, rfl, SC.got EF (by simp), EF.out.st, EF.out.kp, by rw [HA.out]; exact ⟨rfl, rfl⟩⟩
  have hk1 := hk
  have k1 : (k == 1) = false := by rw [beq_eq_false_iff_ne]; exact hk1
  have k5 : (k == 5) = false := by rw [beq_eq_false_iff_ne]; exact hk5
  have k3 : (k == 3) = false := by rw [beq_eq_false_iff_ne]; exact hk3
  cases hs : sta (k, T) with
  | false =>
   have HA : Hid (itm (L.map tok) ⟨tot, ⟨has, ci, ck, cur⟩, (y, m, d), lab⟩ i = .inl (3, i)) := itm_x (t := (k, T)) htt (fun q => hk1 q.1) (fun q => hk5 q.1) (fun q => hk3 q.1) (fun q => by rw [hs] at q; exact Bool.noConfusion q.1)
   have STA := Lib.hid (hs : sta (k, T) = false)
   clear hk1 hk5 hk3 hs hi1 htt hTs
   obtain ⟨r0, r1, r2, r3, r4, r5, r6, r7, r8, r9, r10, rf0, rf1, rf2, rf3, rf4, rf5, rf6, rf7, rf8, rf9, rf10, rlt⟩ := SC.all11 E
   go_enter Tryz.func27, Tryz.ntmps27
   go_wp2_with fail
   refine (pstarts STA.out l p).mono ?_; rintro e1 w2 ⟨rfl, hb⟩
   clear a0 a1 a2 a3
   clear r0 r1 r2 r3 r4 r5 r6 r7 r8 r9 r10 rf0 rf1 rf2 rf3 rf4 rf5 rf6 rf7 rf8 rf9 rf10 rlt
   replace E := Lib.hid (E.out.step hb); clear hb
   obtain ⟨r0, r1, r2, r3, r4, r5, r6, r7, r8, r9, r10, rf0, rf1, rf2, rf3, rf4, rf5, rf6, rf7, rf8, rf9, rf10, rlt⟩ := SC.all11 E
   go_wp2_with fail
   clear r0 r1 r2 r3 r4 r5 r6 r7 r8 r9 r10 rf0 rf1 rf2 rf3 rf4 rf5 rf6 rf7 rf8 rf9 rf10 rlt
   have EF := E
   go_ret2
   exact ⟨⟨tot, ⟨has, ci, ck, cur⟩, (y, m, d), lab⟩, A1, n1, c1, i, 3, rfl, SC.got EF (by simp), EF.out.st, EF.out.kp, by rw [HA.out]; exact ⟨rfl, rfl⟩⟩
  | true =>
   by_cases hl : bs9 cur = []
   ·obtain ⟨l1, l2⟩ := emp_facts hl
    have HA : Hid (itm (L.map tok) ⟨tot, ⟨has, ci, ck, cur⟩, (y, m, d), lab⟩ i = itA (L.map tok) ⟨tot, ⟨has, ci, ck, cur⟩, (y, m, d), lab⟩ i) := itm_a htt hk1 hk5 hk3 hs hl
    have STA := Lib.hid hs
    clear hk1 hk5 hk3 hs hi1 htt hTs hl
    obtain ⟨r0, r1, r2, r3, r4, r5, r6, r7, r8, r9, r10, rf0, rf1, rf2, rf3, rf4, rf5, rf6, rf7, rf8, rf9, rf10, rlt⟩ := SC.all11 E
    go_enter Tryz.func27, Tryz.ntmps27
    go_wp2_with fail
    refine (pstarts STA.out l p).mono ?_; rintro e1 w2 ⟨rfl, hb⟩
    clear a0 a1 a2 a3
    clear r0 r1 r2 r3 r4 r5 r6 r7 r8 r9 r10 rf0 rf1 rf2 rf3 rf4 rf5 rf6 rf7 rf8 rf9 rf10 rlt
    replace E := Lib.hid (E.out.step hb); clear hb
    obtain ⟨r0, r1, r2, r3, r4, r5, r6, r7, r8, r9, r10, rf0, rf1, rf2, rf3, rf4, rf5, rf6, rf7, rf8, rf9, rf10, rlt⟩ := SC.all11 E
    go_wp2_with fail
    clear r0 r1 r2 r3 r4 r5 r6 r7 r8 r9 r10 rf0 rf1 rf2 rf3 rf4 rf5 rf6 rf7 rf8 rf9 rf10 rlt
    refine (CA.out E.out).mono ?_; rintro e2 w3 ⟨c', A', n', k', a', x', rfl, hnum, hbk, hkp, hout⟩
    go_wp2_with fail
    go_ret2
    exact ⟨c', A', n', k', a', x', rfl, hnum, hbk, kp_trans E.out.kp hkp, by rw [HA.out]; exact hout⟩
   ·obtain ⟨l1, l2⟩ := emp_nots hl
    have HA : Hid (itm (L.map tok) ⟨tot, ⟨has, ci, ck, cur⟩, (y, m, d), lab⟩ i = .inl (3, i)) := itm_x (t := (k, T)) htt (fun q => hk1 q.1) (fun q => hk5 q.1) (fun q => hk3 q.1) (fun q => hl q.2)
    have STA := Lib.hid (hs : sta (k, T) = true)
    clear hk1 hk5 hk3 hs hi1 htt hTs hl
    obtain ⟨r0, r1, r2, r3, r4, r5, r6, r7, r8, r9, r10, rf0, rf1, rf2, rf3, rf4, rf5, rf6, rf7, rf8, rf9, rf10, rlt⟩ := SC.all11 E
    go_enter Tryz.func27, Tryz.ntmps27
    go_wp2_with fail
    refine (pstarts STA.out l p).mono ?_; rintro e1 w2 ⟨rfl, hb⟩
    clear a0 a1 a2 a3
    clear r0 r1 r2 r3 r4 r5 r6 r7 r8 r9 r10 rf0 rf1 rf2 rf3 rf4 rf5 rf6 rf7 rf8 rf9 rf10 rlt
    replace E := Lib.hid (E.out.step hb); clear hb
    obtain ⟨r0, r1, r2, r3, r4, r5, r6, r7, r8, r9, r10, rf0, rf1, rf2, rf3, rf4, rf5, rf6, rf7, rf8, rf9, rf10, rlt⟩ := SC.all11 E
    go_wp2_with fail
    clear r0 r1 r2 r3 r4 r5 r6 r7 r8 r9 r10 rf0 rf1 rf2 rf3 rf4 rf5 rf6 rf7 rf8 rf9 rf10 rlt
    have EF := E
    go_ret2
    exact ⟨⟨tot, ⟨has, ci, ck, cur⟩, (y, m, d), lab⟩, A1, n1, c1, i, 3, rfl, SC.got EF (by simp), EF.out.st, EF.out.kp, by rw [HA.out]; exact ⟨rfl, rfl⟩⟩
section
variable {L : List Tok} {a b : Nat} {c c' : Co}
theorem amt_lt {i : Int} {k : Nat} {x : ByteArray} (h : amt L a = .inr (i, k, x, b)) : a < b ∧ b ≤ L.length := by
 unfold amt at h
 split at h
 ·cases h
 ·rename_i hs
  split at h
  ·cases h
  ·rename_i ht
   split at h
   ·cases h
    have := SUM_lt hs rfl
    have := (List.getElem?_eq_some_iff.1 ht).1
    omega
   ·cases h
theorem itm_lt (h : itm L c a = .inr (c', b)) : a < b ∧ b ≤ L.length ∧ c'.tot = c.tot := by
 unfold itm at h
 split at h
 ·cases h
 ·rename_i ht
  have hl := (List.getElem?_eq_some_iff.1 ht).1
  split at h
  ·cases h; exact ⟨by omega, by omega, rfl⟩
  ·split at h
   ·cases h; exact ⟨by omega, by omega, rfl⟩
   ·split at h
    ·cases h; exact ⟨by omega, by omega, rfl⟩
    ·split at h
     ·split at h
      ·cases h
      ·rename_i ha
       cases h
       have := amt_lt ha
       exact ⟨this.1, this.2, rfl⟩
     ·cases h
theorem cstL_err {f e p : Nat} (h : itm L c a = .inl (e, p)) : cstL L (f + 1) c a = .inl (e, p) := by show (match itm L c a with | .inl e => _ | .inr (c', b) => _) = _; rw [h]
theorem cstL_end {f : Nat} (h : itm L c a = .inr (c', b)) (hw : isW L b (shutC c'.tot) = true) : cstL L (f + 1) c a = .inr (c', b + 1) := by show (match itm L c a with | .inl e => _ | .inr (c', b) => _) = _; rw [h]; dsimp only; rw [if_pos hw]
theorem cstL_go {f : Nat} (h : itm L c a = .inr (c', b)) (hw : isW L b (shutC c'.tot) = false) (hk : isW L b [44] = true) : cstL L (f + 1) c a = cstL L f c' (b + 1) := by show (match itm L c a with | .inl e => _ | .inr (c', b) => _) = _; rw [h]; dsimp only; rw [if_neg (by rw [hw]; decide), if_pos hk]
theorem cstL_no {f : Nat} (h : itm L c a = .inr (c', b)) (hw : isW L b (shutC c'.tot) = false) (hk : isW L b [44] = false) : cstL L (f + 1) c a = .inl (shr L b, b) := by show (match itm L c a with | .inl e => _ | .inr (c', b) => _) = _; rw [h]; dsimp only; rw [if_neg (by rw [hw]; decide), if_neg (by rw [hk]; decide)]
end
theorem closure_is {W0 w : World} {B n c i g : Nat} {A : Option Addr} {L : List Tk4} {G : Nat → Nat → Int → Nat → Prop} (hr : RdK W0 B A n c L) (hB : B ≤ W0.heap.size) (hn : n ≤ 400) (hL : Siz (L.map tok) G) (hok : Ok12 W0) (hb0 : Below W0.heap.size W0 w) (hg : W0.heap.size ≤ g) {co : Co} {A1 : Option Addr} {n1 c1 : Nat} (hc : Bk w g (cK co A1 n1 c1) 40) (hm : Num w w.heap.size A1 n1 c1 co.un.i.natAbs) (hi : i ≤ n) {gl : Nat} (hgl : Bk w gl #[.slice A n c] 22) (hne : gl ≠ g) : Calls Tryz.prog 26 #[.int .i64 (i : Int), .pointer (some ⟨g, 0, none⟩), .pointer (some ⟨gl, 0, none⟩)] w (RetI w g (itm (L.map tok) co i)) := by
 have q0 : w.cell? ⟨gl, 0, none⟩ = some (.slice A n c) := (hgl.cell 0).trans rfl
 have hlt := hgl.lt
 have AP := Lib.hid (addpart_is hr hB hn hL hok hb0 hg hc hm hi)
 clear hr hB hok hb0 hg hc hm hgl
 go_enter Tryz.func26, Tryz.ntmps26
 go_wp2_with fail
 refine AP.out.mono ?_; rintro e1 w2 ⟨c', A', n', k', a', x', rfl, hnum, hbk, hkp, hout⟩
 go_wp2_with fail
 go_ret2
 exact ⟨c', A', n', k', a', x', rfl, hnum, hbk, hkp, hout⟩
theorem parts_is {W0 w : World} {B n c i g : Nat} {A : Option Addr} {L : List Tk4} {G : Nat → Nat → Int → Nat → Prop} (hr : RdK W0 B A n c L) (hB : B ≤ W0.heap.size) (hn : n ≤ 400) (hL : Siz (L.map tok) G) (hok : Ok12 W0) (hb0 : Below W0.heap.size W0 w) (hg : W0.heap.size ≤ g) {co : Co} {A1 : Option Addr} {n1 c1 : Nat} (hc : Bk w g (cK co A1 n1 c1) 40) (hm : Num w w.heap.size A1 n1 c1 co.un.i.natAbs) (hi : i ≤ n) {gl : Nat} (hgl : Bk w gl #[.slice A n c] 22) (hne : gl ≠ g) {S : ByteArray} (hS : bs9 S = shutC co.tot) {R : (Nat × Nat) ⊕ (Co × Nat)} (hR : (if isW (L.map tok) i (shutC co.tot) = true then .inr (co, i + 1) else cstL (L.map tok) (L.length + 1) co i) = R) : Calls Tryz.prog 28 #[.slice A n c, .int .i64 (i : Int), .string S, .func (.func 26) #[] #[.pointer (some ⟨g, 0, none⟩), .pointer (some ⟨gl, 0, none⟩)]] w (RetI w g R) := by
 have hlen := hr.len
 have RD : Hid (∀ {W : World}, Below W0.heap.size W0 W → RdK W B A n c L) := fun hb => hr.on hB hb
 have E := Lib.hid ((SC.start hb0 hg hc (cl_K _ _ _ _)).more hm)
 have HLEN := Lib.hid hlen
 have HS := Lib.hid hS
 have HR := Lib.hid hR
 have KL : Hid (∀ {W : World}, Kp g none w W → Bk W gl #[.slice A n c] 22) := fun hk => hgl.kp hk hne
 have CLO : Hid (∀ {W : World} {c1 : Co} {A1 : Option Addr} {n1 k1 a : Nat} {bs : List (Nat × Array Value × TypeId)}, SC W0 w W g (cK c1 A1 n1 k1) [(A1, n1, k1, c1.un.i.natAbs)] bs → a ≤ n → Calls Tryz.prog 26 #[.int .i64 (a : Int), .pointer (some ⟨g, 0, none⟩), .pointer (some ⟨gl, 0, none⟩)] W (RetI W g (itm (L.map tok) c1 a))) := fun h ha => closure_is hr hB hn hL hok h.bel h.pl.1 h.st (h.num _ List.mem_cons_self) ha (KL.out h.kp) hne
 clear hok hb0 hg hc hm hr hgl hne hS hR hlen
 obtain ⟨b1, hb1⟩ : ∃ b, isW (L.map tok) i (shutC co.tot) = b := ⟨_, rfl⟩
 have HB1 := Lib.hid hb1
 go_enter Tryz.func28, Tryz.ntmps28
 go_wp2_with fail
 refine (issign_is (RD.out E.out.bel) (by omega) S HS.out hb1).mono ?_; rintro e1 w3 ⟨rfl, hw⟩
 obtain rfl := hw.symm
 clear hw hb1
 cases b1 with
 | true =>
  have HRR : Hid (.inr (co, i + 1) = R) := by show _ = _; rw [← HR.out, if_pos HB1.out]
  obtain ⟨i1, hi1⟩ : ∃ x, i + 1 = x := ⟨_, rfl⟩
  have ei : (i : Int) + 1 = (i1 : Int) := by omega
  rw [hi1] at HRR
  clear hi1
  go_wp2_with fail
  go_ret2
  exact ⟨co, A1, n1, c1, i1, 0, rfl, SC.got E (by simp), E.out.st, E.out.kp, by rw [← HRR.out]; exact ⟨rfl, rfl, rfl⟩⟩
 | false =>
  have HRR : Hid (cstL (L.map tok) (L.length + 1) co i = R) := by show _ = _; rw [← HR.out, if_neg (by rw [HB1.out]; decide)]
  clear HR HB1
  go_wp2_with fail
  go_loopw [1] (fun av wr => ∃ (a f : Nat) (c2 : Co) (A2 : Option Addr) (n2 k2 : Nat), av = .int .i64 (a : Int) ∧ SC W0 w wr g (cK c2 A2 n2 k2) [(A2, n2, k2, c2.un.i.natAbs)] [] ∧ a ≤ n ∧ n < f + a ∧ c2.tot = co.tot ∧ cstL (L.map tok) f c2 a = R) (fun av _ => n - (intOf av).toNat)
  case atStart => exact ⟨i, L.length + 1, co, A1, n1, c1, rfl, E.out, hi, by have := HLEN.out; omega, rfl, HRR.out⟩
  case round =>
   obtain ⟨a, f, c2, A2, n2, k2, rfl, hE, ha, hf, ht, hr2⟩ := hrel
   replace E := Lib.hid hE
   have HT := Lib.hid ht
   have HRL := Lib.hid hr2
   clear hE ht hr2 HRR hi
   obtain ⟨f1, rfl⟩ : ∃ f1, f = f1 + 1 := ⟨f - 1, by omega⟩
   go_wp2_with fail
   refine (CLO.out E.out ha).mono ?_; rintro e1 w5 ⟨c3, A3, n3, k3, b3, x3, rfl, hnum, hbk, hkp, hout⟩
   have E2 := Lib.hid ((E.out.turn hkp hbk (cl_K _ _ _ _)).more hnum)
   replace E := Lib.hid (⟨E2.out.bel, E2.out.kp, E2.out.pl, fun q hq => E2.out.num q (by rcases List.mem_cons.1 hq with rfl | hq; exact List.mem_cons_self; cases hq), E2.out.st, E2.out.cl, fun q hq => by cases hq⟩ : SC W0 w w5 g (cK c3 A3 n3 k3) [(A3, n3, k3, c3.un.i.natAbs)] [])
   clear E2 hnum hbk hkp
   cases hq : itm (L.map tok) c2 a with
   | inl q =>
    obtain ⟨z, y⟩ := q
    have hz := itm_bad hq
    rw [hq] at hout
    obtain ⟨rfl, rfl⟩ := hout
    have HRR : Hid (.inl (x3, b3) = R) := by show _ = _; rw [← HRL.out, cstL_err hq]
    have dz : ((x3 : Int) != 0) = true := by rw [bne_iff_ne]; omega
    clear hq hz
    go_wp2_with fail
    go_ret2
    exact ⟨c3, A3, n3, k3, b3, x3, rfl, SC.got E (by simp), E.out.st, E.out.kp, by rw [← HRR.out]; exact ⟨rfl, rfl⟩⟩
   | inr q =>
    obtain ⟨c4, y⟩ := q
    have hl := itm_lt hq
    rw [hq] at hout
    obtain ⟨hx, rfl, rfl⟩ := hout
    have HQ := Lib.hid hq
    have hbn : b3 ≤ n := by have := hl.2.1; rw [List.length_map] at this; have := HLEN.out; omega
    have hab : a < b3 := hl.1
    have HT3 : Hid (c3.tot = co.tot) := hl.2.2.trans HT.out
    have dz : ((x3 : Int) != 0) = false := by rw [hx]; rfl
    have HX := Lib.hid hx
    clear hq hx hl
    obtain ⟨b4, hb4⟩ : ∃ b, isW (L.map tok) b3 (shutC c3.tot) = b := ⟨_, rfl⟩
    have HB4 := Lib.hid hb4
    go_wp2_with fail
    refine (issign_is (RD.out E.out.bel) (by omega) S (HS.out.trans (congrArg shutC HT3.out.symm)) hb4).mono ?_; rintro e1 w6 ⟨rfl, hw⟩
    obtain rfl := hw.symm
    clear hw hb4
    obtain ⟨b5, hb5⟩ : ∃ x, b3 + 1 = x := ⟨_, rfl⟩
    have ei : (b3 : Int) + 1 = (b5 : Int) := by omega
    have HB5 := Lib.hid hb5
    clear hb5
    cases b4 with
    | true =>
     have HRR : Hid (.inr (c3, b5) = R) := by show _ = _; rw [← HRL.out, cstL_end HQ.out HB4.out, HB5.out]
     go_wp2_with fail
     go_ret2
     exact ⟨c3, A3, n3, k3, b5, 0, rfl, SC.got E (by simp), E.out.st, E.out.kp, by rw [← HRR.out]; exact ⟨rfl, rfl, rfl⟩⟩
    | false =>
     obtain ⟨b6, hb6⟩ : ∃ b, isW (L.map tok) b3 [44] = b := ⟨_, rfl⟩
     have HB6 := Lib.hid hb6
     go_wp2_with fail
     refine (issign_is (RD.out E.out.bel) (by omega) ⟨#[44]⟩ rfl hb6).mono ?_; rintro e1 w7 ⟨rfl, hw⟩
     obtain rfl := hw.symm
     clear hw hb6
     cases b6 with
     | true =>
      have HRR : Hid (cstL (L.map tok) f1 c3 b5 = R) := by show _ = _; rw [← HRL.out, cstL_go HQ.out HB4.out HB6.out, HB5.out]
      have hb5n : b5 ≤ n := by have h1 := isW_lt HB6.out; have h2 := HLEN.out; have h3 := HB5.out; omega
      have hab5 : a < b5 := by have h3 := HB5.out; omega
      go_wp2_with fail
      go_roundw
      case rel => exact ⟨b5, f1, c3, A3, n3, k3, by go_num, E.out, hb5n, by have h3 := HB5.out; omega, HT3.out, HRR.out⟩
      case measure => simp [intOf] <;> omega
     | false =>
      obtain ⟨x2, hx2⟩ : ∃ x, (if b3 < n then 3 else 2) = x := ⟨_, rfl⟩
      have HRR : Hid (.inl (x2, b3) = R) := by
       show _ = _
       rw [← HRL.out, cstL_no HQ.out HB4.out HB6.out]
       unfold shr
       rw [List.length_map, ← HLEN.out, hx2]
      go_wp2_with fail
      refine (missing_is hbn hx2).mono ?_; rintro e1 w8 ⟨rfl, hw⟩
      obtain rfl := hw.symm
      clear hw hx2
      go_wp2_with fail
      go_ret2
      exact ⟨c3, A3, n3, k3, b3, x2, rfl, SC.got E (by simp), E.out.st, E.out.kp, by rw [← HRR.out]; exact ⟨rfl, rfl⟩⟩
def resO : (Nat × Nat) ⊕ (Co × Nat) → (Nat × Nat) ⊕ (Option Co × Nat)
 | .inl e => .inl e
 | .inr (c, b) => .inr (some c, b)
section
variable {L : List Tok} {a : Nat}
theorem cst_no (h1 : isW L a [123, 123] = false) (h2 : isW L a [123] = false) : cst L a = .inr (none, a) := by unfold cst; rw [if_neg (by rw [h1, h2]; decide)]
theorem cst_yes {b : Bool} (h1 : isW L a [123, 123] = b) (h2 : b = true ∨ isW L a [123] = true) : cst L a = resO (if isW L (a + 1) (shutC (Co.start b).tot) = true then .inr (Co.start b, a + 1 + 1) else cstL L (L.length + 1) (Co.start b) (a + 1)) := by
 unfold cst; rw [h1, if_pos h2]; rfl
end
theorem cost_at {w : World} {B n c i : Nat} {A : Option Addr} {L : List Tk4} {G : Nat → Nat → Int → Nat → Prop} (hr : RdK w B A n c L) (hB : B ≤ w.heap.size) (hn : n ≤ 400) (hL : Siz (L.map tok) G) (hok : Ok12 w) (hi : i ≤ n) {v : VC} {p e : Nat} (h : resC (cst (L.map tok) i) = (v, p, e)) : Calls Tryz.prog 11 #[.slice A n c, .int .i64 (i : Int)] w (RvC w v p e) := by
 have hlen := hr.len
 have RD : Hid (∀ {W : World}, Below w.heap.size w W → RdK W B A n c L) := fun hb => hr.on hB hb
 have OK : Hid (∀ {W : World}, Below w.heap.size w W → Ok12 W) := fun hb => okw12 hok hb
 have E := Lib.hid (S14.start w)
 have H := Lib.hid h
 have HB := Lib.hid hB
 have HLEN := Lib.hid hlen
 clear h hr hok hlen hB
 go_enter Tryz.func11, Tryz.ntmps11
 go_wp2_with fail
 replace E := Lib.hid (((E.out.lay #[.slice A n c] 22 (g := w.heap.size) rfl).lay #[.bool false, .bool false, .bool false, .bool false, .slice none 0 0, .int .i64 0, .string ⟨#[]⟩, .int .i64 0, .int .i64 0, .int .i64 0, .string ⟨#[]⟩] 40 (g := (w.heap.size + 1)) (by simp)).lay #[.bool true, .bool false, .bool false, .bool false, .slice none 0 0, .int .i64 0, .string ⟨#[]⟩, .int .i64 0, .int .i64 0, .int .i64 0, .string ⟨#[]⟩] 40 (g := (w.heap.size + 1 + 1)) (by simp))
 generalize hW : World.alloc (World.alloc (World.alloc w _) _) _ = W1 at E ⊢
 clear hW
 refine (there_is (b := true) (decide_eq_true ⟨by omega, by omega⟩)).mono ?_; rintro e1 w3 ⟨rfl, hw⟩
 obtain rfl := hw.symm
 clear hw
 have q0 := S14.atv E (y := .slice A n c) (g := w.heap.size) (xs := #[.slice A n c]) (t := 22) (by simp) 0 rfl
 have qlt := E.out.lt (g := w.heap.size) (xs := #[.slice A n c]) (t := 22) (by simp)
 go_wp2_with fail
 obtain ⟨b1, hb1⟩ : ∃ b, isW (L.map tok) i [123, 123] = b := ⟨_, rfl⟩
 refine (issign_is (RD.out E.out.bel) (by omega) ⟨#[123, 123]⟩ rfl hb1).mono ?_; rintro e1 w3 ⟨rfl, hw⟩
 obtain rfl := hw.symm
 clear hw q0 qlt
 cases b1 with
 | true =>
  have hin : i < n := by have := isW_lt hb1; have := HLEN.out; omega
  obtain ⟨R, hR⟩ : ∃ R, (if isW (L.map tok) (i + 1) (shutC (Co.start true).tot) = true then .inr (Co.start true, i + 1 + 1) else cstL (L.map tok) (L.length + 1) (Co.start true) (i + 1)) = R := ⟨_, rfl⟩
  have HC : Hid (cst (L.map tok) i = resO R) := by
   show _ = _
   rw [cst_yes hb1 (.inl rfl), List.length_map, hR]
  have PC : Hid (∀ {W : World}, S14 w W [] [((w.heap.size + 1 + 1), #[.bool true, .bool true, .bool false, .bool false, .slice none 0 0, .int .i64 0, .string ⟨#[]⟩, .int .i64 0, .int .i64 0, .int .i64 0, .string ⟨#[]⟩], 40), ((w.heap.size + 1), #[.bool false, .bool false, .bool false, .bool false, .slice none 0 0, .int .i64 0, .string ⟨#[]⟩, .int .i64 0, .int .i64 0, .int .i64 0, .string ⟨#[]⟩], 40), (w.heap.size, #[.slice A n c], 22)] → Calls Tryz.prog 28 #[.slice A n c, .int .i64 ((i + 1 : Nat) : Int), .string ⟨#[125, 125]⟩, .func (.func 26) #[] #[.pointer (some ⟨(w.heap.size + 1 + 1), 0, none⟩), .pointer (some ⟨w.heap.size, 0, none⟩)]] W (RetI W (w.heap.size + 1 + 1) R)) := fun h => parts_is (RD.out (Below.refl _ _)) HB.out hn hL (OK.out (Below.refl _ _)) h.bel (by omega) (co := Co.start true) (A1 := none) (n1 := 0) (c1 := 0) (h.blk _ List.mem_cons_self) (num_zero _ _) (by omega) (gl := w.heap.size) (h.blk (w.heap.size, #[.slice A n c], 22) (by simp)) (by omega) rfl hR
  obtain ⟨i1, hi1⟩ : ∃ x, i + 1 = x := ⟨_, rfl⟩
  have ei : (i : Int) + 1 = (i1 : Int) := by omega
  rw [hi1] at PC
  clear hi1 hR hb1
  have q0 := S14.atv E (y := .slice A n c) (g := w.heap.size) (xs := #[.slice A n c]) (t := 22) (by simp) 0 rfl
  have qlt := E.out.lt (g := w.heap.size) (xs := #[.slice A n c]) (t := 22) (by simp)
  obtain ⟨r0, r1, r2, r3, r4, r5, r6, r7, r8, r9, r10, rf0, rf1, rf2, rf3, rf4, rf5, rf6, rf7, rf8, rf9, rf10, rlt⟩ := S14.all11 (g := (w.heap.size + 1 + 1)) (t := 40) (x0 := .bool true) (x1 := .bool false) (x2 := .bool false) (x3 := .bool false) (x4 := .slice none 0 0) (x5 := .int .i64 0) (x6 := .string ⟨#[]⟩) (x7 := .int .i64 0) (x8 := .int .i64 0) (x9 := .int .i64 0) (x10 := .string ⟨#[]⟩) E (by simp)
  go_wp2_with fail
  clear r0 r1 r2 r3 r4 r5 r6 r7 r8 r9 r10 rf0 rf1 rf2 rf3 rf4 rf5 rf6 rf7 rf8 rf9 rf10 rlt
  clear q0 qlt
  replace E := Lib.hid (E.out.turn (g := (w.heap.size + 1 + 1)) (xs := #[.bool true, .bool false, .bool false, .bool false, .slice none 0 0, .int .i64 0, .string ⟨#[]⟩, .int .i64 0, .int .i64 0, .int .i64 0, .string ⟨#[]⟩]) (t := 40) (by simp) (Cl.mk (cl_cons (noLimb_bool _) (cl_cons (noLimb_bool _) (cl_cons (noLimb_bool _) (cl_cons (noLimb_bool _) (cl_cons (noLimb_slice _ _ _) (cl_cons (noLimb_int _) (cl_cons (noLimb_str _) (cl_cons (noLimb_int _) (cl_cons (noLimb_int _) (cl_cons (noLimb_int _) (cl_cons (noLimb_str _) cl_nil)))))))))))) (by omega) (kp_set W1 (w.heap.size + 1 + 1) 1 (.bool true)) (show Bk _ (w.heap.size + 1 + 1) #[.bool true, .bool true, .bool false, .bool false, .slice none 0 0, .int .i64 0, .string ⟨#[]⟩, .int .i64 0, .int .i64 0, .int .i64 0, .string ⟨#[]⟩] 40 from (E.out.blk ((w.heap.size + 1 + 1), #[.bool true, .bool false, .bool false, .bool false, .slice none 0 0, .int .i64 0, .string ⟨#[]⟩, .int .i64 0, .int .i64 0, .int .i64 0, .string ⟨#[]⟩], 40) (by simp)).set 1 (.bool true)) [((w.heap.size + 1), #[.bool false, .bool false, .bool false, .bool false, .slice none 0 0, .int .i64 0, .string ⟨#[]⟩, .int .i64 0, .int .i64 0, .int .i64 0, .string ⟨#[]⟩], 40), (w.heap.size, #[.slice A n c], 22)] (fun q hq => by rcases List.mem_cons.1 hq with rfl | hq; exact ⟨by simp, by show w.heap.size + 1 ≠ w.heap.size + 1 + 1; omega⟩; rw [List.mem_singleton.1 hq]; exact ⟨by simp, by show w.heap.size ≠ w.heap.size + 1 + 1; omega⟩))
  generalize hV : World.setCell W1 _ _ = W2 at E ⊢
  clear hV
  refine (PC.out E.out).mono ?_; rintro e1 w5 ⟨c3, A3, n3, k3, b3, x3, rfl, hnum, hbk, hkp, hout⟩
  replace E := Lib.hid ((E.out.turn (g := (w.heap.size + 1 + 1)) (xs := #[.bool true, .bool true, .bool false, .bool false, .slice none 0 0, .int .i64 0, .string ⟨#[]⟩, .int .i64 0, .int .i64 0, .int .i64 0, .string ⟨#[]⟩]) (t := 40) (by simp) (Cl.mk (cl_cons (noLimb_bool _) (cl_cons (noLimb_bool _) (cl_cons (noLimb_bool _) (cl_cons (noLimb_bool _) (cl_cons (noLimb_slice _ _ _) (cl_cons (noLimb_int _) (cl_cons (noLimb_str _) (cl_cons (noLimb_int _) (cl_cons (noLimb_int _) (cl_cons (noLimb_int _) (cl_cons (noLimb_str _) cl_nil)))))))))))) (by omega) hkp hbk [((w.heap.size + 1), #[.bool false, .bool false, .bool false, .bool false, .slice none 0 0, .int .i64 0, .string ⟨#[]⟩, .int .i64 0, .int .i64 0, .int .i64 0, .string ⟨#[]⟩], 40)] (fun q hq => by rw [List.mem_singleton.1 hq]; exact ⟨by simp, by show w.heap.size + 1 ≠ w.heap.size + 1 + 1; omega⟩)).more hnum)
  clear hnum hbk hkp
  obtain ⟨tot, ⟨has, ci, ck, cur⟩, ⟨y, m, d⟩, lab⟩ := c3
  cases hR : R with
  | inl q =>
   obtain ⟨z, y1⟩ := q
   rw [hR] at hout
   obtain ⟨rfl, rfl⟩ := hout
   have HA : Hid (cst (L.map tok) i = .inl (x3, b3)) := by show _ = _; rw [HC.out, hR]; rfl
   have hz : x3 ≠ 0 := cst_bad HA.out
   have dz : ((x3 : Int) != 0) = true := by rw [bne_iff_ne]; omega
   clear hR hz
   obtain ⟨r0, r1, r2, r3, r4, r5, r6, r7, r8, r9, r10, rf0, rf1, rf2, rf3, rf4, rf5, rf6, rf7, rf8, rf9, rf10, rlt⟩ := S14.all11 (g := (w.heap.size + 1)) (t := 40) (x0 := .bool false) (x1 := .bool false) (x2 := .bool false) (x3 := .bool false) (x4 := .slice none 0 0) (x5 := .int .i64 0) (x6 := .string ⟨#[]⟩) (x7 := .int .i64 0) (x8 := .int .i64 0) (x9 := .int .i64 0) (x10 := .string ⟨#[]⟩) E (by simp)
   go_wp2_with fail
   clear r0 r1 r2 r3 r4 r5 r6 r7 r8 r9 r10 rf0 rf1 rf2 rf3 rf4 rf5 rf6 rf7 rf8 rf9 rf10 rlt
   have EF := Lib.hid ((E.out.fill11 (g := (w.heap.size + 1)) (t := 40) (x0 := .bool false) (x1 := .bool false) (x2 := .bool false) (x3 := .bool false) (x4 := .slice none 0 0) (x5 := .int .i64 0) (x6 := .string ⟨#[]⟩) (x7 := .int .i64 0) (x8 := .int .i64 0) (x9 := .int .i64 0) (x10 := .string ⟨#[]⟩) (by simp) (Cl.mk (cl_cons (noLimb_bool _) (cl_cons (noLimb_bool _) (cl_cons (noLimb_bool _) (cl_cons (noLimb_bool _) (cl_cons (noLimb_slice _ _ _) (cl_cons (noLimb_int _) (cl_cons (noLimb_str _) (cl_cons (noLimb_int _) (cl_cons (noLimb_int _) (cl_cons (noLimb_int _) (cl_cons (noLimb_str _) cl_nil)))))))))))) (by first | exact Nat.le_refl _ | omega) [] (fun q hq => by cases hq) (.bool false) (.bool false) (.bool false) (.bool false) (.slice none 0 0) (.int .i64 0) (.string ⟨#[]⟩) (.int .i64 0) (.int .i64 0) (.int .i64 0) (.string ⟨#[]⟩)))
   obtain ⟨r0, r1, r2, r3, r4, r5, r6, r7, r8, r9, r10, -, -, -, -, -, -, -, -, -, -, -, -⟩ := S14.all11 (g := (w.heap.size + 1)) (t := 40) (x0 := .bool false) (x1 := .bool false) (x2 := .bool false) (x3 := .bool false) (x4 := .slice none 0 0) (x5 := .int .i64 0) (x6 := .string ⟨#[]⟩) (x7 := .int .i64 0) (x8 := .int .i64 0) (x9 := .int .i64 0) (x10 := .string ⟨#[]⟩) EF (by simp)
   exact bodyPost_ret (v := .tuple #[.agg #[.bool false, .bool false, .bool false, .bool false, .slice none 0 0, .int .i64 0, .string ⟨#[]⟩, .int .i64 0, .int .i64 0, .int .i64 0, .string ⟨#[]⟩], .int .i64 (b3 : Int), .int .i64 (x3 : Int)]) (by simp [results, Tryz.results11, go_sem, r0, r1, r2, r3, r4, r5, r6, r7, r8, r9, r10]) rfl (by have q := H.out; rw [HA.out] at q; cases q; exact ⟨none, 0, 0, rfl, num_zero _ _, EF.out.bel⟩)
  | inr q =>
   obtain ⟨c4, y1⟩ := q
   rw [hR] at hout
   obtain ⟨hx, rfl, rfl⟩ := hout
   have HA : Hid (cst (L.map tok) i = .inr (some ⟨tot, ⟨has, ci, ck, cur⟩, (y, m, d), lab⟩, b3)) := by show _ = _; rw [HC.out, hR]; rfl
   have dz : ((x3 : Int) != 0) = false := by rw [hx]; rfl
   clear hR hx
   dsimp only at E
   obtain ⟨r0, r1, r2, r3, r4, r5, r6, r7, r8, r9, r10, rf0, rf1, rf2, rf3, rf4, rf5, rf6, rf7, rf8, rf9, rf10, rlt⟩ := S14.all11 (g := (w.heap.size + 1)) (t := 40) (x0 := .bool false) (x1 := .bool false) (x2 := .bool false) (x3 := .bool false) (x4 := .slice none 0 0) (x5 := .int .i64 0) (x6 := .string ⟨#[]⟩) (x7 := .int .i64 0) (x8 := .int .i64 0) (x9 := .int .i64 0) (x10 := .string ⟨#[]⟩) E (by simp)
   obtain ⟨p0, p1, p2, p3, p4, p5, p6, p7, p8, p9, p10, pf0, pf1, pf2, pf3, pf4, pf5, pf6, pf7, pf8, pf9, pf10, plt⟩ := S14.all11 (g := (w.heap.size + 1 + 1)) (t := 40) (x0 := .bool true) (x1 := .bool tot) (x2 := .bool has) (x3 := .bool (ngB ci)) (x4 := .slice A3 n3 k3) (x5 := .int .i64 (ck : Int)) (x6 := .string cur) (x7 := .int .i64 y) (x8 := .int .i64 m) (x9 := .int .i64 d) (x10 := .string lab) E (by simp)
   go_wp2_with fail
   clear r0 r1 r2 r3 r4 r5 r6 r7 r8 r9 r10 rf0 rf1 rf2 rf3 rf4 rf5 rf6 rf7 rf8 rf9 rf10 rlt
   clear p0 p1 p2 p3 p4 p5 p6 p7 p8 p9 p10 pf0 pf1 pf2 pf3 pf4 pf5 pf6 pf7 pf8 pf9 pf10 plt
   have EF := Lib.hid ((E.out.fill11 (g := (w.heap.size + 1)) (t := 40) (x0 := .bool false) (x1 := .bool false) (x2 := .bool false) (x3 := .bool false) (x4 := .slice none 0 0) (x5 := .int .i64 0) (x6 := .string ⟨#[]⟩) (x7 := .int .i64 0) (x8 := .int .i64 0) (x9 := .int .i64 0) (x10 := .string ⟨#[]⟩) (by simp) (Cl.mk (cl_cons (noLimb_bool _) (cl_cons (noLimb_bool _) (cl_cons (noLimb_bool _) (cl_cons (noLimb_bool _) (cl_cons (noLimb_slice _ _ _) (cl_cons (noLimb_int _) (cl_cons (noLimb_str _) (cl_cons (noLimb_int _) (cl_cons (noLimb_int _) (cl_cons (noLimb_int _) (cl_cons (noLimb_str _) cl_nil)))))))))))) (by first | exact Nat.le_refl _ | omega) [] (fun q hq => by cases hq) (.bool true) (.bool tot) (.bool has) (.bool (ngB ci)) (.slice A3 n3 k3) (.int .i64 (ck : Int)) (.string cur) (.int .i64 y) (.int .i64 m) (.int .i64 d) (.string lab)))
   obtain ⟨r0, r1, r2, r3, r4, r5, r6, r7, r8, r9, r10, -, -, -, -, -, -, -, -, -, -, -, -⟩ := S14.all11 (g := (w.heap.size + 1)) (t := 40) (x0 := .bool true) (x1 := .bool tot) (x2 := .bool has) (x3 := .bool (ngB ci)) (x4 := .slice A3 n3 k3) (x5 := .int .i64 (ck : Int)) (x6 := .string cur) (x7 := .int .i64 y) (x8 := .int .i64 m) (x9 := .int .i64 d) (x10 := .string lab) EF (by simp)
   exact bodyPost_ret (v := .tuple #[.agg #[.bool true, .bool tot, .bool has, .bool (ngB ci), .slice A3 n3 k3, .int .i64 (ck : Int), .string cur, .int .i64 y, .int .i64 m, .int .i64 d, .string lab], .int .i64 (b3 : Int), .int .i64 0]) (by simp [results, Tryz.results11, go_sem, r0, r1, r2, r3, r4, r5, r6, r7, r8, r9, r10]) rfl (by have q := H.out; rw [HA.out] at q; cases q; exact ⟨A3, n3, k3, rfl, S14.got (A := A3) (n := n3) (c := k3) (a := ci.natAbs) EF (by simp), EF.out.bel⟩)
 | false =>
  have q0 := S14.atv E (y := .slice A n c) (g := w.heap.size) (xs := #[.slice A n c]) (t := 22) (by simp) 0 rfl
  have qlt := E.out.lt (g := w.heap.size) (xs := #[.slice A n c]) (t := 22) (by simp)
  go_wp2_with fail
  obtain ⟨b2, hb2⟩ : ∃ b, isW (L.map tok) i [123] = b := ⟨_, rfl⟩
  refine (issign_is (RD.out E.out.bel) (by omega) ⟨#[123]⟩ rfl hb2).mono ?_; rintro e1 w3 ⟨rfl, hw⟩
  obtain rfl := hw.symm
  clear hw q0 qlt
  cases b2 with
  | true =>
   have hin : i < n := by have := isW_lt hb2; have := HLEN.out; omega
   obtain ⟨R, hR⟩ : ∃ R, (if isW (L.map tok) (i + 1) (shutC (Co.start false).tot) = true then .inr (Co.start false, i + 1 + 1) else cstL (L.map tok) (L.length + 1) (Co.start false) (i + 1)) = R := ⟨_, rfl⟩
   have HC : Hid (cst (L.map tok) i = resO R) := by
    show _ = _
    rw [cst_yes hb1 (.inr hb2), List.length_map, hR]
   have PC : Hid (∀ {W : World}, S14 w W [] [((w.heap.size + 1 + 1), #[.bool true, .bool false, .bool false, .bool false, .slice none 0 0, .int .i64 0, .string ⟨#[]⟩, .int .i64 0, .int .i64 0, .int .i64 0, .string ⟨#[]⟩], 40), ((w.heap.size + 1), #[.bool false, .bool false, .bool false, .bool false, .slice none 0 0, .int .i64 0, .string ⟨#[]⟩, .int .i64 0, .int .i64 0, .int .i64 0, .string ⟨#[]⟩], 40), (w.heap.size, #[.slice A n c], 22)] → Calls Tryz.prog 28 #[.slice A n c, .int .i64 ((i + 1 : Nat) : Int), .string ⟨#[125]⟩, .func (.func 26) #[] #[.pointer (some ⟨(w.heap.size + 1 + 1), 0, none⟩), .pointer (some ⟨w.heap.size, 0, none⟩)]] W (RetI W (w.heap.size + 1 + 1) R)) := fun h => parts_is (RD.out (Below.refl _ _)) HB.out hn hL (OK.out (Below.refl _ _)) h.bel (by omega) (co := Co.start false) (A1 := none) (n1 := 0) (c1 := 0) (h.blk _ List.mem_cons_self) (num_zero _ _) (by omega) (gl := w.heap.size) (h.blk (w.heap.size, #[.slice A n c], 22) (by simp)) (by omega) rfl hR
   obtain ⟨i1, hi1⟩ : ∃ x, i + 1 = x := ⟨_, rfl⟩
   have ei : (i : Int) + 1 = (i1 : Int) := by omega
   rw [hi1] at PC
   clear hi1 hR hb1 hb2
   have q0 := S14.atv E (y := .slice A n c) (g := w.heap.size) (xs := #[.slice A n c]) (t := 22) (by simp) 0 rfl
   have qlt := E.out.lt (g := w.heap.size) (xs := #[.slice A n c]) (t := 22) (by simp)
   go_wp2_with fail
   clear q0 qlt
   refine (PC.out E.out).mono ?_; rintro e1 w5 ⟨c3, A3, n3, k3, b3, x3, rfl, hnum, hbk, hkp, hout⟩
   replace E := Lib.hid ((E.out.turn (g := (w.heap.size + 1 + 1)) (xs := #[.bool true, .bool false, .bool false, .bool false, .slice none 0 0, .int .i64 0, .string ⟨#[]⟩, .int .i64 0, .int .i64 0, .int .i64 0, .string ⟨#[]⟩]) (t := 40) (by simp) (Cl.mk (cl_cons (noLimb_bool _) (cl_cons (noLimb_bool _) (cl_cons (noLimb_bool _) (cl_cons (noLimb_bool _) (cl_cons (noLimb_slice _ _ _) (cl_cons (noLimb_int _) (cl_cons (noLimb_str _) (cl_cons (noLimb_int _) (cl_cons (noLimb_int _) (cl_cons (noLimb_int _) (cl_cons (noLimb_str _) cl_nil)))))))))))) (by omega) hkp hbk [((w.heap.size + 1), #[.bool false, .bool false, .bool false, .bool false, .slice none 0 0, .int .i64 0, .string ⟨#[]⟩, .int .i64 0, .int .i64 0, .int .i64 0, .string ⟨#[]⟩], 40)] (fun q hq => by rw [List.mem_singleton.1 hq]; exact ⟨by simp, by show w.heap.size + 1 ≠ w.heap.size + 1 + 1; omega⟩)).more hnum)
   clear hnum hbk hkp
   obtain ⟨tot, ⟨has, ci, ck, cur⟩, ⟨y, m, d⟩, lab⟩ := c3
   cases hR : R with
   | inl q =>
    obtain ⟨z, y1⟩ := q
    rw [hR] at hout
    obtain ⟨rfl, rfl⟩ := hout
    have HA : Hid (cst (L.map tok) i = .inl (x3, b3)) := by show _ = _; rw [HC.out, hR]; rfl
    have hz : x3 ≠ 0 := cst_bad HA.out
    have dz : ((x3 : Int) != 0) = true := by rw [bne_iff_ne]; omega
    clear hR hz
    obtain ⟨r0, r1, r2, r3, r4, r5, r6, r7, r8, r9, r10, rf0, rf1, rf2, rf3, rf4, rf5, rf6, rf7, rf8, rf9, rf10, rlt⟩ := S14.all11 (g := (w.heap.size + 1)) (t := 40) (x0 := .bool false) (x1 := .bool false) (x2 := .bool false) (x3 := .bool false) (x4 := .slice none 0 0) (x5 := .int .i64 0) (x6 := .string ⟨#[]⟩) (x7 := .int .i64 0) (x8 := .int .i64 0) (x9 := .int .i64 0) (x10 := .string ⟨#[]⟩) E (by simp)
    go_wp2_with fail
    clear r0 r1 r2 r3 r4 r5 r6 r7 r8 r9 r10 rf0 rf1 rf2 rf3 rf4 rf5 rf6 rf7 rf8 rf9 rf10 rlt
    have EF := Lib.hid ((E.out.fill11 (g := (w.heap.size + 1)) (t := 40) (x0 := .bool false) (x1 := .bool false) (x2 := .bool false) (x3 := .bool false) (x4 := .slice none 0 0) (x5 := .int .i64 0) (x6 := .string ⟨#[]⟩) (x7 := .int .i64 0) (x8 := .int .i64 0) (x9 := .int .i64 0) (x10 := .string ⟨#[]⟩) (by simp) (Cl.mk (cl_cons (noLimb_bool _) (cl_cons (noLimb_bool _) (cl_cons (noLimb_bool _) (cl_cons (noLimb_bool _) (cl_cons (noLimb_slice _ _ _) (cl_cons (noLimb_int _) (cl_cons (noLimb_str _) (cl_cons (noLimb_int _) (cl_cons (noLimb_int _) (cl_cons (noLimb_int _) (cl_cons (noLimb_str _) cl_nil)))))))))))) (by first | exact Nat.le_refl _ | omega) [] (fun q hq => by cases hq) (.bool false) (.bool false) (.bool false) (.bool false) (.slice none 0 0) (.int .i64 0) (.string ⟨#[]⟩) (.int .i64 0) (.int .i64 0) (.int .i64 0) (.string ⟨#[]⟩)))
    obtain ⟨r0, r1, r2, r3, r4, r5, r6, r7, r8, r9, r10, -, -, -, -, -, -, -, -, -, -, -, -⟩ := S14.all11 (g := (w.heap.size + 1)) (t := 40) (x0 := .bool false) (x1 := .bool false) (x2 := .bool false) (x3 := .bool false) (x4 := .slice none 0 0) (x5 := .int .i64 0) (x6 := .string ⟨#[]⟩) (x7 := .int .i64 0) (x8 := .int .i64 0) (x9 := .int .i64 0) (x10 := .string ⟨#[]⟩) EF (by simp)
    exact bodyPost_ret (v := .tuple #[.agg #[.bool false, .bool false, .bool false, .bool false, .slice none 0 0, .int .i64 0, .string ⟨#[]⟩, .int .i64 0, .int .i64 0, .int .i64 0, .string ⟨#[]⟩], .int .i64 (b3 : Int), .int .i64 (x3 : Int)]) (by simp [results, Tryz.results11, go_sem, r0, r1, r2, r3, r4, r5, r6, r7, r8, r9, r10]) rfl (by have q := H.out; rw [HA.out] at q; cases q; exact ⟨none, 0, 0, rfl, num_zero _ _, EF.out.bel⟩)
   | inr q =>
    obtain ⟨c4, y1⟩ := q
    rw [hR] at hout
    obtain ⟨hx, rfl, rfl⟩ := hout
    have HA : Hid (cst (L.map tok) i = .inr (some ⟨tot, ⟨has, ci, ck, cur⟩, (y, m, d), lab⟩, b3)) := by show _ = _; rw [HC.out, hR]; rfl
    have dz : ((x3 : Int) != 0) = false := by rw [hx]; rfl
    clear hR hx
    dsimp only at E
    obtain ⟨r0, r1, r2, r3, r4, r5, r6, r7, r8, r9, r10, rf0, rf1, rf2, rf3, rf4, rf5, rf6, rf7, rf8, rf9, rf10, rlt⟩ := S14.all11 (g := (w.heap.size + 1)) (t := 40) (x0 := .bool false) (x1 := .bool false) (x2 := .bool false) (x3 := .bool false) (x4 := .slice none 0 0) (x5 := .int .i64 0) (x6 := .string ⟨#[]⟩) (x7 := .int .i64 0) (x8 := .int .i64 0) (x9 := .int .i64 0) (x10 := .string ⟨#[]⟩) E (by simp)
    obtain ⟨p0, p1, p2, p3, p4, p5, p6, p7, p8, p9, p10, pf0, pf1, pf2, pf3, pf4, pf5, pf6, pf7, pf8, pf9, pf10, plt⟩ := S14.all11 (g := (w.heap.size + 1 + 1)) (t := 40) (x0 := .bool true) (x1 := .bool tot) (x2 := .bool has) (x3 := .bool (ngB ci)) (x4 := .slice A3 n3 k3) (x5 := .int .i64 (ck : Int)) (x6 := .string cur) (x7 := .int .i64 y) (x8 := .int .i64 m) (x9 := .int .i64 d) (x10 := .string lab) E (by simp)
    go_wp2_with fail
    clear r0 r1 r2 r3 r4 r5 r6 r7 r8 r9 r10 rf0 rf1 rf2 rf3 rf4 rf5 rf6 rf7 rf8 rf9 rf10 rlt
    clear p0 p1 p2 p3 p4 p5 p6 p7 p8 p9 p10 pf0 pf1 pf2 pf3 pf4 pf5 pf6 pf7 pf8 pf9 pf10 plt
    have EF := Lib.hid ((E.out.fill11 (g := (w.heap.size + 1)) (t := 40) (x0 := .bool false) (x1 := .bool false) (x2 := .bool false) (x3 := .bool false) (x4 := .slice none 0 0) (x5 := .int .i64 0) (x6 := .string ⟨#[]⟩) (x7 := .int .i64 0) (x8 := .int .i64 0) (x9 := .int .i64 0) (x10 := .string ⟨#[]⟩) (by simp) (Cl.mk (cl_cons (noLimb_bool _) (cl_cons (noLimb_bool _) (cl_cons (noLimb_bool _) (cl_cons (noLimb_bool _) (cl_cons (noLimb_slice _ _ _) (cl_cons (noLimb_int _) (cl_cons (noLimb_str _) (cl_cons (noLimb_int _) (cl_cons (noLimb_int _) (cl_cons (noLimb_int _) (cl_cons (noLimb_str _) cl_nil)))))))))))) (by first | exact Nat.le_refl _ | omega) [] (fun q hq => by cases hq) (.bool true) (.bool tot) (.bool has) (.bool (ngB ci)) (.slice A3 n3 k3) (.int .i64 (ck : Int)) (.string cur) (.int .i64 y) (.int .i64 m) (.int .i64 d) (.string lab)))
    obtain ⟨r0, r1, r2, r3, r4, r5, r6, r7, r8, r9, r10, -, -, -, -, -, -, -, -, -, -, -, -⟩ := S14.all11 (g := (w.heap.size + 1)) (t := 40) (x0 := .bool true) (x1 := .bool tot) (x2 := .bool has) (x3 := .bool (ngB ci)) (x4 := .slice A3 n3 k3) (x5 := .int .i64 (ck : Int)) (x6 := .string cur) (x7 := .int .i64 y) (x8 := .int .i64 m) (x9 := .int .i64 d) (x10 := .string lab) EF (by simp)
    exact bodyPost_ret (v := .tuple #[.agg #[.bool true, .bool tot, .bool has, .bool (ngB ci), .slice A3 n3 k3, .int .i64 (ck : Int), .string cur, .int .i64 y, .int .i64 m, .int .i64 d, .string lab], .int .i64 (b3 : Int), .int .i64 0]) (by simp [results, Tryz.results11, go_sem, r0, r1, r2, r3, r4, r5, r6, r7, r8, r9, r10]) rfl (by have q := H.out; rw [HA.out] at q; cases q; exact ⟨A3, n3, k3, rfl, S14.got (A := A3) (n := n3) (c := k3) (a := ci.natAbs) EF (by simp), EF.out.bel⟩)
  | false =>
   have HA : Hid (cst (L.map tok) i = .inr (none, i)) := cst_no hb1 hb2
   clear hb1 hb2
   obtain ⟨r0, r1, r2, r3, r4, r5, r6, r7, r8, r9, r10, rf0, rf1, rf2, rf3, rf4, rf5, rf6, rf7, rf8, rf9, rf10, rlt⟩ := S14.all11 (g := (w.heap.size + 1)) (t := 40) (x0 := .bool false) (x1 := .bool false) (x2 := .bool false) (x3 := .bool false) (x4 := .slice none 0 0) (x5 := .int .i64 0) (x6 := .string ⟨#[]⟩) (x7 := .int .i64 0) (x8 := .int .i64 0) (x9 := .int .i64 0) (x10 := .string ⟨#[]⟩) E (by simp)
   go_wp2_with fail
   clear r0 r1 r2 r3 r4 r5 r6 r7 r8 r9 r10 rf0 rf1 rf2 rf3 rf4 rf5 rf6 rf7 rf8 rf9 rf10 rlt
   have EF := Lib.hid ((E.out.fill11 (g := (w.heap.size + 1)) (t := 40) (x0 := .bool false) (x1 := .bool false) (x2 := .bool false) (x3 := .bool false) (x4 := .slice none 0 0) (x5 := .int .i64 0) (x6 := .string ⟨#[]⟩) (x7 := .int .i64 0) (x8 := .int .i64 0) (x9 := .int .i64 0) (x10 := .string ⟨#[]⟩) (by simp) (Cl.mk (cl_cons (noLimb_bool _) (cl_cons (noLimb_bool _) (cl_cons (noLimb_bool _) (cl_cons (noLimb_bool _) (cl_cons (noLimb_slice _ _ _) (cl_cons (noLimb_int _) (cl_cons (noLimb_str _) (cl_cons (noLimb_int _) (cl_cons (noLimb_int _) (cl_cons (noLimb_int _) (cl_cons (noLimb_str _) cl_nil)))))))))))) (by first | exact Nat.le_refl _ | omega) [] (fun q hq => by cases hq) (.bool false) (.bool false) (.bool false) (.bool false) (.slice none 0 0) (.int .i64 0) (.string ⟨#[]⟩) (.int .i64 0) (.int .i64 0) (.int .i64 0) (.string ⟨#[]⟩)))
   obtain ⟨r0, r1, r2, r3, r4, r5, r6, r7, r8, r9, r10, -, -, -, -, -, -, -, -, -, -, -, -⟩ := S14.all11 (g := (w.heap.size + 1)) (t := 40) (x0 := .bool false) (x1 := .bool false) (x2 := .bool false) (x3 := .bool false) (x4 := .slice none 0 0) (x5 := .int .i64 0) (x6 := .string ⟨#[]⟩) (x7 := .int .i64 0) (x8 := .int .i64 0) (x9 := .int .i64 0) (x10 := .string ⟨#[]⟩) EF (by simp)
   exact bodyPost_ret (v := .tuple #[.agg #[.bool false, .bool false, .bool false, .bool false, .slice none 0 0, .int .i64 0, .string ⟨#[]⟩, .int .i64 0, .int .i64 0, .int .i64 0, .string ⟨#[]⟩], .int .i64 (i : Int), .int .i64 0]) (by simp [results, Tryz.results11, go_sem, r0, r1, r2, r3, r4, r5, r6, r7, r8, r9, r10]) rfl (by have q := H.out; rw [HA.out] at q; cases q; exact ⟨none, 0, 0, rfl, num_zero _ _, EF.out.bel⟩)
theorem txtD_fit14 {w : World} {A : Option Addr} {n c k : Nat} {i : Int} (h : Num w w.heap.size A n c i.natAbs) (hn : n ≤ 900) (hk : k ≤ 4010) : (txtD i k).length ≤ 12113 := by
 have h1 := txtD_len (Sz.of_len (x := i) (s := k) (n := 900) (by have := h.len; omega))
 omega
theorem S14.bare2 (w : World) {A : Option Addr} {n c a : Nat} (h : Num w w.heap.size A n c a) : S14 w w [(A, n, c, a)] [] := (S14.start w).more h
theorem amtt14 : TEXTA := by
 intro w A n c v T hnum hn hk hs hok hT
 obtain ⟨vi, vk, vs⟩ := v
 have hlen : (txtD vi vk).length ≤ 12113 := txtD_fit14 hnum hn hk
 obtain ⟨X, hX⟩ : ∃ X, str (txtD vi vk) = X := ⟨_, rfl⟩
 have hB : bs9 X = txtD vi vk := by rw [← hX]; exact codes_str (txtD_lt _ _)
 have hXs : X.size ≤ 12113 := by rw [← bs9_len, hB]; exact hlen
 obtain ⟨Y, hY⟩ : ∃ Y : ByteArray, bs9 Y = txtD vi vk ++ [32] := ⟨st9 (txtD vi vk ++ [32]), bs9_st9 fun c hc => by
  rcases List.mem_append.1 hc with h | h
  ·exact txtD_lt _ _ c h
  ·rw [List.mem_singleton.1 h]; decide⟩
 have hYs : Y.size ≤ 12114 := by rw [← bs9_len, hY, List.length_append, List.length_singleton]; omega
 have hvs : vs.size ≤ 30 := hs
 have ad1 : ∀ w, (Op.stringOp .add X ⟨#[32]⟩).run Tryz.prog w = .ok (.string Y) w := fun w => add9 (by rw [hB, hY]; rfl) (by show X.size + 1 ≤ _; omega) w
 have ad2 : ∀ w, (Op.stringOp .add Y vs).run Tryz.prog w = .ok (.string T) w := fun w => add9 (by rw [hY, List.append_assoc]; exact hT) (by omega) w
 have TX : Hid (∀ {W : World}, Num W W.heap.size A n c vi.natAbs → Calls Tryz.prog 37 #[.agg #[.bool (ngB vi), .slice A n c, .int .i64 (vk : Int)]] W (RetVal W (.string X))) := fun h => dtext_is h (by omega) (by dsimp only at hk; omega) hX
 have E := Lib.hid (S14.bare2 w hnum)
 clear hnum hn hk hs hok hT hlen hX hB hXs hY hYs hvs
 go_enter Tryz.func18, Tryz.ntmps18
 go_wp2_with fail
 replace E := Lib.hid (E.out.lay #[.bool (ngB vi), .slice A n c, .int .i64 (vk : Int), .string vs] 56 (g := w.heap.size) rfl)
 generalize hW : World.alloc w _ = W1 at E ⊢
 clear hW
 obtain ⟨q0, q1, q2, q3, -⟩ := S14.all4 (g := w.heap.size) (t := 56) (x0 := .bool (ngB vi)) (x1 := .slice A n c) (x2 := .int .i64 (vk : Int)) (x3 := .string vs) E (by simp)
 replace E := Lib.hid (E.out.step (Below.refl _ _).drew)
 go_region_held3 (fun v => v.cell? ⟨w.heap.size, 0, none⟩ = some (.bool (ngB vi)) ∧ v.cell? ⟨w.heap.size, 1, none⟩ = some (.slice A n c) ∧ v.cell? ⟨w.heap.size, 2, none⟩ = some (.int .i64 (vk : Int)) ∧ v.cell? ⟨w.heap.size, 3, none⟩ = some (.string vs)) (first | with_reducible exact ⟨S14.atv E (y := .bool (ngB vi)) (g := w.heap.size) (xs := #[.bool (ngB vi), .slice A n c, .int .i64 (vk : Int), .string vs]) (t := 56) (by simp) 0 rfl, S14.atv E (y := .slice A n c) (g := w.heap.size) (xs := #[.bool (ngB vi), .slice A n c, .int .i64 (vk : Int), .string vs]) (t := 56) (by simp) 1 rfl, S14.atv E (y := .int .i64 (vk : Int)) (g := w.heap.size) (xs := #[.bool (ngB vi), .slice A n c, .int .i64 (vk : Int), .string vs]) (t := 56) (by simp) 2 rfl, S14.atv E (y := .string vs) (g := w.heap.size) (xs := #[.bool (ngB vi), .slice A n c, .int .i64 (vk : Int), .string vs]) (t := 56) (by simp) 3 rfl⟩ | go_keep) (first | (go_at_call 37; refine (TX.out (S14.got E (by simp))).mono ?_; rintro e w5 ⟨rfl, hb⟩; replace E := Lib.hid (E.out.step hb); clear hb))
 all_goals
  go_wp2_with fail
  go_ret
  exact ⟨rfl, E.out.bel⟩
theorem untt14 : TEXTU := by
 intro w A n c v T hnum hn hk hs hok hT
 obtain ⟨vb, vi, vk, vs⟩ := v
 have E := Lib.hid (S14.bare2 w hnum)
 have OK : Hid (∀ {W : World}, Below w.heap.size w W → Ok12 W) := fun hb => okw12 hok hb
 cases vb with
 | true =>
  have TA : Hid (∀ {W : World}, S14 w W [(A, n, c, vi.natAbs)] [] → Calls Tryz.prog 18 #[.agg #[.bool (ngB vi), .slice A n c, .int .i64 (vk : Int), .string vs]] W (Ret9 W (.string T))) := fun h => amtt14 (v := ⟨vi, vk, vs⟩) (h.num _ List.mem_cons_self) hn hk hs (OK.out h.bel) hT
  clear hnum hn hk hs hok hT
  go_enter Tryz.func8, Tryz.ntmps8
  go_wp2_with fail
  replace E := Lib.hid (E.out.step ((Below.refl _ _).alloc (Nat.le_refl _) (.cells #[.bool true, .bool (ngB vi), .slice A n c, .int .i64 (vk : Int), .string vs] 30)))
  generalize hW : World.alloc w _ = W1 at E ⊢
  clear hW
  refine (TA.out E.out).mono ?_; rintro e1 w5 ⟨rfl, hb⟩
  replace E := Lib.hid (E.out.step hb); clear hb
  go_wp2_with fail
  go_ret
  exact ⟨rfl, E.out.bel⟩
 | false =>
  obtain rfl : vs = T := bs9_inj hT
  clear hnum hn hk hs hok hT
  go_enter Tryz.func8, Tryz.ntmps8
  go_wp2_with fail
  replace E := Lib.hid (E.out.step ((Below.refl _ _).alloc (Nat.le_refl _) (.cells #[.bool false, .bool (ngB vi), .slice A n c, .int .i64 (vk : Int), .string vs] 30)))
  go_ret
  exact ⟨rfl, E.out.bel⟩
theorem cunits_is {w : World} {A : Option Addr} {n c vk : Nat} {vi : Int} {vs : ByteArray} {h t vb : Bool} {y m d : Int} {l : ByteArray} : Calls Tryz.prog 30 #[.agg #[.bool h, .bool t, .bool vb, .bool (ngB vi), .slice A n c, .int .i64 (vk : Int), .string vs, .int .i64 y, .int .i64 m, .int .i64 d, .string l]] w (Ret9 w (.agg #[.bool vb, .bool (ngB vi), .slice A n c, .int .i64 (vk : Int), .string vs])) := by
 have E := Lib.hid (S14.start w)
 go_enter Tryz.func30, Tryz.ntmps30
 go_wp2_with fail
 have EF := Lib.hid ((E.out.lay #[.bool h, .bool t, .bool vb, .bool (ngB vi), .slice A n c, .int .i64 (vk : Int), .string vs, .int .i64 y, .int .i64 m, .int .i64 d, .string l] 40 (g := w.heap.size) rfl).lay #[.bool vb, .bool (ngB vi), .slice A n c, .int .i64 (vk : Int), .string vs] 30 (g := w.heap.size + 1) (by simp))
 obtain ⟨r0, r1, r2, r3, r4, -, -, -, -, -, -⟩ := S14.all5 (g := w.heap.size + 1) (t := 30) (x0 := .bool vb) (x1 := .bool (ngB vi)) (x2 := .slice A n c) (x3 := .int .i64 (vk : Int)) (x4 := .string vs) EF (by simp)
 exact bodyPost_ret (v := .agg #[.bool vb, .bool (ngB vi), .slice A n c, .int .i64 (vk : Int), .string vs]) (by simp [results, Tryz.results30, go_sem, r0, r1, r2, r3, r4]) rfl ⟨rfl, EF.out.bel⟩
theorem punits_is {w : World} {A : Option Addr} {n c vk : Nat} {vi : Int} {vs : ByteArray} {h t vb : Bool} : Calls Tryz.prog 34 #[.agg #[.bool h, .bool t, .bool vb, .bool (ngB vi), .slice A n c, .int .i64 (vk : Int), .string vs]] w (Ret9 w (.agg #[.bool vb, .bool (ngB vi), .slice A n c, .int .i64 (vk : Int), .string vs])) := by
 have E := Lib.hid (S14.start w)
 go_enter Tryz.func34, Tryz.ntmps34
 go_wp2_with fail
 have EF := Lib.hid ((E.out.lay #[.bool h, .bool t, .bool vb, .bool (ngB vi), .slice A n c, .int .i64 (vk : Int), .string vs] 46 (g := w.heap.size) rfl).lay #[.bool vb, .bool (ngB vi), .slice A n c, .int .i64 (vk : Int), .string vs] 30 (g := w.heap.size + 1) (by simp))
 obtain ⟨r0, r1, r2, r3, r4, -, -, -, -, -, -⟩ := S14.all5 (g := w.heap.size + 1) (t := 30) (x0 := .bool vb) (x1 := .bool (ngB vi)) (x2 := .slice A n c) (x3 := .int .i64 (vk : Int)) (x4 := .string vs) EF (by simp)
 exact bodyPost_ret (v := .agg #[.bool vb, .bool (ngB vi), .slice A n c, .int .i64 (vk : Int), .string vs]) (by simp [results, Tryz.results34, go_sem, r0, r1, r2, r3, r4]) rfl ⟨rfl, EF.out.bel⟩
theorem prct14 : TEXTP := by
 intro w A n c v T hnum hn hk hs hok hT
 obtain ⟨vh, vt, vb, vi, vk, vs⟩ := v
 have E := Lib.hid (S14.bare2 w hnum)
 have OK : Hid (∀ {W : World}, Below w.heap.size w W → Ok12 W) := fun hb => okw12 hok hb
 cases vh with
 | false =>
  obtain rfl : T = ⟨#[]⟩ := bs9_inj hT.symm
  clear hnum hn hk hs hok hT
  go_enter Tryz.func15, Tryz.ntmps15
  go_wp2_with fail
  replace E := Lib.hid (E.out.step ((Below.refl _ _).alloc (Nat.le_refl _) (.cells #[.bool false, .bool vt, .bool vb, .bool (ngB vi), .slice A n c, .int .i64 (vk : Int), .string vs] 46)))
  go_ret
  exact ⟨rfl, E.out.bel⟩
 | true =>
  have hT2 : prcT (vt, ⟨vb, vi, vk, vs⟩) = bs9 T := hT
  obtain ⟨U, hU⟩ : ∃ U : ByteArray, bs9 U = untT ⟨vb, vi, vk, vs⟩ := ⟨st9 (untT ⟨vb, vi, vk, vs⟩), bs9_st9 (unt_bytes _)⟩
  have hl : (untT ⟨vb, vi, vk, vs⟩).length ≤ 12144 := by
   have h1 := txtD_fit14 hnum hn hk
   have h2 : vs.size ≤ 30 := hs
   unfold untT
   dsimp only
   split
   ·unfold amtT; rw [List.length_append, List.length_cons, bs9_len]; dsimp only at h1; omega
   ·rw [bs9_len]; omega
  have hUs : U.size ≤ 12144 := by rw [← bs9_len, hU]; exact hl
  have TU : Hid (∀ {W : World} {bs}, S14 w W [(A, n, c, vi.natAbs)] bs → Calls Tryz.prog 8 #[.agg #[.bool vb, .bool (ngB vi), .slice A n c, .int .i64 (vk : Int), .string vs]] W (Ret9 W (.string U))) := fun h => untt14 (v := ⟨vb, vi, vk, vs⟩) (h.num _ List.mem_cons_self) hn hk hs (OK.out h.bel) hU.symm
  unfold prcT at hT2
  have hAP : ∀ (x : List Nat), (if untT ⟨vb, vi, vk, vs⟩ ≠ [] then 32 :: untT ⟨vb, vi, vk, vs⟩ else []) = x → (if vt = true then [64, 64] else [64]) ++ x = bs9 T := fun x hx => by rw [← hx]; exact hT2
  clear hT hT2 hnum hn hk hs hok hl
  cases vt with
  | true =>
   obtain ⟨Y, hY⟩ : ∃ Y : ByteArray, bs9 Y = [64, 64] ++ [32] := ⟨st9 ([64, 64] ++ [32]), bs9_st9 (by decide)⟩
   have hYs : Y.size ≤ 3 := by rw [← bs9_len, hY]; decide
   have ad1 : ∀ w, (Op.stringOp .add ⟨#[64, 64]⟩ ⟨#[32]⟩).run Tryz.prog w = .ok (.string Y) w := fun w => add9 (by rw [hY]; rfl) (by decide) w
   go_enter Tryz.func15, Tryz.ntmps15
   go_wp2_with fail
   replace E := Lib.hid (E.out.lay #[.bool true, .bool true, .bool vb, .bool (ngB vi), .slice A n c, .int .i64 (vk : Int), .string vs] 46 (g := w.heap.size) rfl)
   generalize hW : World.alloc w _ = W1 at E ⊢
   clear hW
   refine punits_is.mono ?_; rintro e1 w5 ⟨rfl, hb⟩
   replace E := Lib.hid (E.out.step hb); clear hb
   go_wp2_with fail
   refine (TU.out E.out).mono ?_; rintro e1 w6 ⟨rfl, hb⟩
   replace E := Lib.hid (E.out.step hb); clear hb
   by_cases hz : bs9 U = []
   ·obtain ⟨u1, u2⟩ := emp_facts hz
    obtain rfl : T = ⟨#[64, 64]⟩ := bs9_inj (by rw [← hAP [] (by rw [if_neg (by rw [← hU, hz]; exact fun h => h rfl)])]; rfl)
    clear hz hAP hU hUs hY hYs
    go_wp2_with fail
    go_ret
    exact ⟨rfl, E.out.bel⟩
   ·obtain ⟨u1, u2⟩ := emp_nots hz
    have ad2 : ∀ w, (Op.stringOp .add Y U).run Tryz.prog w = .ok (.string T) w := fun w => add9 (by rw [hY, hU, ← hAP (32 :: untT ⟨vb, vi, vk, vs⟩) (by rw [if_pos (by rw [← hU]; exact hz)])]; rfl) (by omega) w
    clear hz hAP hU hUs hY hYs
    go_wp2_with fail
    go_ret
    exact ⟨rfl, E.out.bel⟩
  | false =>
   obtain ⟨Y, hY⟩ : ∃ Y : ByteArray, bs9 Y = [64] ++ [32] := ⟨st9 ([64] ++ [32]), bs9_st9 (by decide)⟩
   have hYs : Y.size ≤ 3 := by rw [← bs9_len, hY]; decide
   have ad1 : ∀ w, (Op.stringOp .add ⟨#[64]⟩ ⟨#[32]⟩).run Tryz.prog w = .ok (.string Y) w := fun w => add9 (by rw [hY]; rfl) (by decide) w
   go_enter Tryz.func15, Tryz.ntmps15
   go_wp2_with fail
   replace E := Lib.hid (E.out.lay #[.bool true, .bool false, .bool vb, .bool (ngB vi), .slice A n c, .int .i64 (vk : Int), .string vs] 46 (g := w.heap.size) rfl)
   generalize hW : World.alloc w _ = W1 at E ⊢
   clear hW
   refine punits_is.mono ?_; rintro e1 w5 ⟨rfl, hb⟩
   replace E := Lib.hid (E.out.step hb); clear hb
   go_wp2_with fail
   refine (TU.out E.out).mono ?_; rintro e1 w6 ⟨rfl, hb⟩
   replace E := Lib.hid (E.out.step hb); clear hb
   by_cases hz : bs9 U = []
   ·obtain ⟨u1, u2⟩ := emp_facts hz
    obtain rfl : T = ⟨#[64]⟩ := bs9_inj (by rw [← hAP [] (by rw [if_neg (by rw [← hU, hz]; exact fun h => h rfl)])]; rfl)
    clear hz hAP hU hUs hY hYs
    go_wp2_with fail
    go_ret
    exact ⟨rfl, E.out.bel⟩
   ·obtain ⟨u1, u2⟩ := emp_nots hz
    have ad2 : ∀ w, (Op.stringOp .add Y U).run Tryz.prog w = .ok (.string T) w := fun w => add9 (by rw [hY, hU, ← hAP (32 :: untT ⟨vb, vi, vk, vs⟩) (by rw [if_pos (by rw [← hU]; exact hz)])]; rfl) (by omega) w
    clear hz hAP hU hUs hY hYs
    go_wp2_with fail
    go_ret
    exact ⟨rfl, E.out.bel⟩
theorem join_tail : ∀ (r : List (List UInt8)), (Lib.joinTail [44, 32] r).map UInt8.toNat = (r.map fun x => 44 :: 32 :: x.map UInt8.toNat).flatten
 | [] => rfl
 | x :: r => by
  have e : Lib.joinTail [44, 32] (x :: r) = 44 :: 32 :: (x ++ Lib.joinTail [44, 32] r) := rfl
  rw [e, List.map_cons, List.map_cons, List.map_append, join_tail r]; rfl
theorem jnT_flat : ∀ (x : List Nat) (r : List (List Nat)), jnT (x :: r) = x ++ (r.map fun y => 44 :: 32 :: y).flatten
 | x, [] => by show x = x ++ []; rw [List.append_nil]
 | x, y :: r => by
  show x ++ 44 :: 32 :: jnT (y :: r) = _
  rw [jnT_flat y r]; rfl
theorem bs9_join (xs : List ByteArray) : bs9 ⟨(Lib.join (xs.map (·.data.toList)) [44, 32]).toArray⟩ = jnT (xs.map bs9) := by
 show (Lib.join (xs.map (·.data.toList)) [44, 32]).map UInt8.toNat = _
 cases xs with
 | nil => rfl
 | cons x r =>
  rw [List.map_cons, Lib.join_cons, List.map_append, join_tail, List.map_cons, jnT_flat, List.map_map, List.map_map]
  rfl
theorem rowP_get {L : List (List Nat)} {j : Nat} {x : ByteArray} (h : (L.map st9)[j]? = some x) : (row11 L)[j]? = some (.string x) := by
 unfold row11
 rw [List.getElem?_map] at h ⊢
 cases hj : L[j]? with
 | none => rw [hj] at h; cases h
 | some t => rw [hj] at h; cases h; rfl
theorem join_is {w : World} {A : Option Addr} {n c : Nat} {L : List (List Nat)} (h : RdP w A n c L) (hL : ∀ t ∈ L, ∀ x ∈ t, x < 256) (hn : n ≤ 1000000) {J : ByteArray} (hJ : jnT L = bs9 J) (hs : J.size ≤ 1000000) : Calls Tryz.prog 33 #[.slice A n c, .string ⟨#[44, 32]⟩] w (Ret9 w (.string J)) := by
 obtain ⟨h1, h2, h3, h4⟩ := h
 have e : (L.map st9).map bs9 = L := by
  rw [List.map_map]
  conv => rhs; rw [← List.map_id L]
  exact List.map_congr_left fun t ht => bs9_st9 (hL t ht)
 have hr : (⟨(Lib.join ((L.map st9).map (·.data.toList)) [44, 32]).toArray⟩ : ByteArray) = J := bs9_inj (by rw [bs9_join, e, hJ])
 rcases h4 with rfl | ⟨b, o, rfl, hb, hc⟩
 ·obtain rfl : n = 0 := h1
  obtain rfl : J = ⟨#[]⟩ := bs9_inj hJ.symm
  exact (Any.strings_Join_none Tryz.lays156 Tryz.Builder_Extra_156 A c ⟨#[44, 32]⟩ w).mono fun e w' ⟨he, hw⟩ => ⟨he, hw ▸ Below.refl _ _⟩
 ·have hl : (L.map st9).length = n := by rw [List.length_map, h1]
  have q := Tryz.strings_Join b o c (L.map st9) ⟨#[44, 32]⟩ w (fun j x hx => hc j _ (rowP_get hx)) hb (by omega) (by omega) (by
   have h9 := congrArg ByteArray.size hr
   have h8 : (Lib.join ((L.map st9).map (·.data.toList)) [44, 32]).length = J.size := by rw [← h9]; exact List.size_toArray.symm
   show (Lib.join ((L.map st9).map (·.data.toList)) [44, 32]).length ≤ _
   omega)
  rw [hl] at q
  exact q.mono fun e w' ⟨he, hw⟩ => ⟨he.trans (by rw [← hr]), hw⟩
theorem told_is {w : World} {gt : Nat} {v : Value} {L : List (List Nat)} (hB : Bk w gt #[v] 77) (hO : OwnP w (gt + 1) v L) (hl : L.length ≤ 10) (X : ByteArray) {M : List (List Nat)} (hM : (if bs9 X ≠ [] then L ++ [bs9 X] else L) = M) :
  Calls Tryz.prog 29 #[.string X, .pointer (some ⟨gt, 0, none⟩)] w (fun e w' => e = .returned (.tuple #[]) ∧ ∃ v', Below gt w w' ∧ Bk w' gt #[v'] 77 ∧ OwnP w' (gt + 1) v' M) := by
 by_cases hz : bs9 X = []
 ·obtain ⟨u1, u2⟩ := emp_facts hz
  have hM2 : L = M := by rw [← hM, if_neg (fun h => h hz)]
  subst hM2
  have H1 := Lib.hid hB
  have H2 := Lib.hid hO
  clear hz hM hB hO
  go_enter Tryz.func29, Tryz.ntmps29
  go_wp2_with fail
  go_end0
  exact ⟨rfl, v, Below.refl _ _, H1.out, H2.out⟩
 ·obtain ⟨u1, u2⟩ := emp_nots hz
  have hM2 : Hid (L ++ [bs9 X] = M) := by show _ = _; rw [← hM, if_pos hz]
  obtain ⟨A2, c2, rfl⟩ := hO.slen
  have q0 : w.cell? ⟨gt, 0, none⟩ = some (.slice A2 L.length c2) := (hB.cell 0).trans rfl
  have qf := hB.fz 0
  have qlt := hB.lt
  obtain ⟨W9, hW9⟩ : ∃ v, World.alloc w (.cells #[.string X] 9) = v := ⟨_, rfl⟩
  have OW9 : Hid (OwnP W9 (gt + 1) (.slice A2 L.length c2) L) := by rw [← hW9]; exact hO.on ((Below.refl _ _).alloc (Nat.le_refl _) _)
  have HB9 : Hid (Below w.heap.size w W9) := by rw [← hW9]; exact (Below.refl _ _).alloc (Nat.le_refl _) _
  have BK9 : Hid (Bk W9 gt #[.slice A2 L.length c2] 77) := hB.on HB9.out
  have NEW : Hid (∀ j u, ([.string X] : List Value)[j]? = some u → W9.cell? ((⟨w.heap.size, 0, none⟩ : Addr).add j) = some u) := by
   show ∀ j u, _
   rw [← hW9]; exact txt_new X _
  have HXS : Hid (row11 (L ++ [bs9 X]) = row11 L ++ [.string X]) := by show _ = _; rw [row11_push, st9_bs9]
  obtain ⟨i0, hi0, hz0, hz1, hz2⟩ := info_parts11 info_txt
  have hl9 : L.length + 1 ≤ 11 := by omega
  clear hz hM hB hO hl
  go_enter Tryz.func29, Tryz.ntmps29
  go_wp2_with (at_builtin; (try rw [hW9]); refine wpList_append_lies _ rfl (.tmp 5) (.tmp 7) 77 rfl (gt + 1) 9 i0 (.string ⟨#[]⟩) 1 16 Tryz.underlying77 hi0 hz0 hz1 hz2 zcells1 (by decide) (.slice A2 L.length c2) L.length (row11 L) rfl OW9.out ⟨w.heap.size, 0, none⟩ 1 1 [.string X] rfl rfl NEW.out (by intro u hu; simp at hu; subst hu; rfl) (by decide) (by unfold maxLen; omega) (by omega) (by have := HB9.out.size; omega) W9.heap.size rfl ?_; intro g4 cap4 w11 hown4 hgr4 hat4 hlt4; have OWB : Hid (OwnP w11 (gt + 1) (.slice (some ⟨g4, 0, none⟩) (L.length + 1) cap4) (L ++ [bs9 X])) := (by show OwnP _ _ _ _; unfold OwnP; rw [List.length_append, HXS.out]; exact hown4); have HBB : Hid (Below (gt + 1) w w11) := ((HB9.out.mono (by omega)).grown hgr4 (by have := HB9.out.size; omega) (fun k e => (World.ownsRow.lt OW9.out k e).1)); clear hown4 hgr4 hat4 hlt4; have BKB : Hid (Bk w11 gt #[.slice A2 L.length c2] 77) := ((HBB.out.block gt (by omega)).trans ((HB9.out.block gt qlt).symm.trans BK9.out)); have q1 : w11.cell? ⟨gt, 0, none⟩ = some (.slice A2 L.length c2) := ((BKB.out.cell 0).trans rfl); have qf1 := BKB.out.fz 0; have qlt1 := BKB.out.lt)
  go_end0
  exact ⟨rfl, .slice (some ⟨g4, 0, none⟩) (L.length + 1) cap4, (HBB.out.mono (Nat.le_succ _)).setCell (Nat.le_refl _) _, BKB.out.set 0 _, by rw [← hM2.out]; exact ownsRow_setCell_below OWB.out (a := ⟨gt, 0, none⟩) (Nat.lt_succ_self _) _⟩
structure SJ (w0 w : World) (xs : Array Value) (v : Value) (L : List (List Nat)) : Prop where
 bel : Below w0.heap.size w0 w
 box : Bk w w0.heap.size xs 40
 tol : Bk w (w0.heap.size + 1) #[v] 77
 own : OwnP w (w0.heap.size + 1 + 1) v L
section
variable {w0 w w' : World} {xs : Array Value} {v v' : Value} {L M : List (List Nat)}
theorem SJ.step (h : SJ w0 w xs v L) (hb : Below w.heap.size w w') : SJ w0 w' xs v L := ⟨h.bel.trans (hb.mono h.bel.size), h.box.on hb, h.tol.on hb, h.own.on hb⟩
theorem SJ.told (h : SJ w0 w xs v L) (hb : Below (w0.heap.size + 1) w w') (ht : Bk w' (w0.heap.size + 1) #[v'] 77) (ho : OwnP w' (w0.heap.size + 1 + 1) v' M) : SJ w0 w' xs v' M := ⟨h.bel.trans (hb.mono (Nat.le_succ _)), (hb.block _ (Nat.lt_succ_self _)).trans h.box, ht, ho⟩
theorem SJ.atv (h : Hid (SJ w0 w xs v L)) (j : Nat) {y : Value} (hj : xs[j]? = some y) : w.cell? ⟨w0.heap.size, j, none⟩ = some y := (h.out.box.cell j).trans hj
end
theorem jnT_len : ∀ L : List (List Nat), (jnT L).length ≤ (L.map List.length).sum + 2 * L.length
 | [] => Nat.le_refl _
 | [x] => by show x.length ≤ x.length + 0 + 2; omega
 | x :: y :: r => by
  have := jnT_len (y :: r)
  show (x ++ 44 :: 32 :: jnT (y :: r)).length ≤ _
  rw [List.length_append, List.length_cons, List.length_cons, List.map_cons, List.sum_cons, List.length_cons]
  omega
theorem unt_full {u : Un} : (if u.has = true ∨ bs9 u.cur ≠ [] then [untT u] else []) = (if untT u ≠ [] then [] ++ [untT u] else []) := by
 have e : (u.has = true ∨ bs9 u.cur ≠ []) ↔ untT u ≠ [] := by
  unfold untT
  cases u.has with
  | true =>
   rw [if_pos rfl]
   exact ⟨fun _ h => by unfold amtT at h; exact absurd (congrArg List.length h) (by rw [List.length_append, List.length_cons]; simp), fun _ => .inl rfl⟩
  | false =>
   rw [if_neg (by decide)]
   exact ⟨fun h => h.resolve_left (by decide), fun h => .inr h⟩
 by_cases h : untT u ≠ []
 ·rw [if_pos (e.2 h), if_pos h]; rfl
 ·rw [if_neg (fun q => h (e.1 q)), if_neg h]
theorem qt_ne (l : List Nat) : qt l ≠ [] := by unfold qt; intro h; cases h
theorem prt_three (c : Co) {L1 L2 L3 : List (List Nat)} (h1 : (if untT c.un ≠ [] then [] ++ [untT c.un] else []) = L1) (h2 : (if dayT c.day ≠ [] then L1 ++ [dayT c.day] else L1) = L2) (h3 : (if bs9 c.lab ≠ [] then L2 ++ [qt (bs9 c.lab)] else L2) = L3) : prtT c = L3 := by
 unfold prtT
 rw [unt_full, h1, ← h3, ← h2]
 by_cases a : dayT c.day ≠ []
 ·rw [if_pos a, if_pos a]
  by_cases b : bs9 c.lab ≠ []
  ·rw [if_pos b, if_pos b, List.append_assoc]
  ·rw [if_neg b, if_neg b, List.append_nil]
 ·rw [if_neg a, if_neg a]
  by_cases b : bs9 c.lab ≠ []
  ·rw [if_pos b, if_pos b]; rfl
  ·rw [if_neg b, if_neg b]; exact List.append_nil _
theorem cstt14 : TEXTC := by
 intro w A n c v T hnum hn hk hs hls hok hT
 obtain ⟨vh, vt, vb, vi, vk, vs, vy, vm, vd, vl⟩ := v
 have OK : Hid (∀ {W : World}, Below w.heap.size w W → Ok12 W) := fun hb => okw12 hok hb
 cases vh with
 | false =>
  obtain rfl : T = ⟨#[]⟩ := bs9_inj hT.symm
  have E := Lib.hid (Below.refl w.heap.size w)
  clear hnum hn hk hs hls hok hT
  go_enter Tryz.func12, Tryz.ntmps12
  go_wp2_with fail
  replace E := Lib.hid (E.out.alloc (Nat.le_refl _) (.cells #[.bool false, .bool vt, .bool vb, .bool (ngB vi), .slice A n c, .int .i64 (vk : Int), .string vs, .int .i64 vy, .int .i64 vm, .int .i64 vd, .string vl] 40))
  go_ret
  exact ⟨rfl, E.out⟩
 | true =>
  have hT2 : cstT ⟨vt, ⟨vb, vi, vk, vs⟩, (vy, vm, vd), vl⟩ = bs9 T := hT
  obtain ⟨U, hU⟩ : ∃ U : ByteArray, bs9 U = untT ⟨vb, vi, vk, vs⟩ := ⟨st9 (untT ⟨vb, vi, vk, vs⟩), bs9_st9 (unt_bytes _)⟩
  obtain ⟨D, hD⟩ : ∃ D : ByteArray, dayT (vy, vm, vd) = bs9 D := ⟨_, rfl⟩
  obtain ⟨Q, hQ⟩ : ∃ Q : ByteArray, qt (bs9 vl) = bs9 Q := ⟨st9 (qt (bs9 vl)), (bs9_st9 (qt_lt (bs9_lt _))).symm⟩
  obtain ⟨L1, h1⟩ : ∃ L1, (if bs9 U ≠ [] then [] ++ [bs9 U] else []) = L1 := ⟨_, rfl⟩
  obtain ⟨L2, h2⟩ : ∃ L2, (if bs9 D ≠ [] then L1 ++ [bs9 D] else L1) = L2 := ⟨_, rfl⟩
  obtain ⟨L3, h3⟩ : ∃ L3, (if bs9 vl ≠ [] then L2 ++ [bs9 Q] else L2) = L3 := ⟨_, rfl⟩
  have hP : prtT ⟨vt, ⟨vb, vi, vk, vs⟩, (vy, vm, vd), vl⟩ = L3 := prt_three (L1 := L1) (L2 := L2) (L3 := L3) _ (by rw [← hU]; exact h1) (by show (if dayT (vy, vm, vd) ≠ [] then _ else _) = _; rw [hD]; exact h2) (by show (if bs9 vl ≠ [] then _ else _) = _; rw [hQ]; exact h3)
  have hlu : (bs9 U).length ≤ 12144 := by
   have h1 := txtD_fit14 hnum hn hk
   have h2 : vs.size ≤ 30 := hs
   rw [hU]
   unfold untT
   dsimp only
   split
   ·unfold amtT; rw [List.length_append, List.length_cons, bs9_len]; dsimp only at h1; omega
   ·rw [bs9_len]; omega
  have hld : (bs9 D).length ≤ 10 := by rw [← hD]; exact dayT_len _
  have hlq : (bs9 Q).length ≤ 1000 := by
   have h5 : vl.size ≤ 30 := hls
   have h6 := qt_len (bs9 vl)
   rw [bs9_len] at h6
   rw [← hQ]; omega
  have n1 : L1.length ≤ 1 ∧ (L1.map List.length).sum ≤ 12144 ∧ ∀ t ∈ L1, ∀ x ∈ t, x < 256 := by
   rw [← h1]
   split
   ·exact ⟨Nat.le_refl _, by show (bs9 U).length + 0 ≤ _; omega, fun t ht => by rw [List.nil_append] at ht; rw [List.mem_singleton.1 ht]; exact bs9_lt _⟩
   ·exact ⟨Nat.zero_le _, Nat.zero_le _, fun t ht => by cases ht⟩
  have n2 : L2.length ≤ 2 ∧ (L2.map List.length).sum ≤ 12154 ∧ ∀ t ∈ L2, ∀ x ∈ t, x < 256 := by
   rw [← h2]
   split
   ·refine ⟨by rw [List.length_append, List.length_singleton]; omega, by rw [List.map_append, List.sum_append]; show _ + ((bs9 D).length + 0) ≤ _; omega, fun t ht => ?_⟩
    rcases List.mem_append.1 ht with h | h
    ·exact n1.2.2 t h
    ·rw [List.mem_singleton.1 h]; exact bs9_lt _
   ·exact ⟨by omega, by omega, n1.2.2⟩
  have n3 : L3.length ≤ 3 ∧ (L3.map List.length).sum ≤ 13154 ∧ ∀ t ∈ L3, ∀ x ∈ t, x < 256 := by
   rw [← h3]
   split
   ·refine ⟨by rw [List.length_append, List.length_singleton]; omega, by rw [List.map_append, List.sum_append]; show _ + ((bs9 Q).length + 0) ≤ _; omega, fun t ht => ?_⟩
    rcases List.mem_append.1 ht with h | h
    ·exact n2.2.2 t h
    ·rw [List.mem_singleton.1 h]; exact bs9_lt _
   ·exact ⟨by omega, by omega, n2.2.2⟩
  obtain ⟨J, hJ⟩ : ∃ J : ByteArray, jnT L3 = bs9 J := ⟨st9 (jnT L3), (bs9_st9 (jnT_bytes _ n3.2.2)).symm⟩
  have hJs : J.size ≤ 13160 := by rw [← bs9_len, ← hJ]; have := jnT_len L3; omega
  have TU : Hid (∀ {W : World}, Below w.heap.size w W → Calls Tryz.prog 8 #[.agg #[.bool vb, .bool (ngB vi), .slice A n c, .int .i64 (vk : Int), .string vs]] W (Ret9 W (.string U))) := fun h => untt14 (v := ⟨vb, vi, vk, vs⟩) (hnum.on h) hn hk hs (OK.out h) hU.symm
  have TD : Hid (∀ {W : World}, Below w.heap.size w W → Calls Tryz.prog 31 #[.agg #[.int .i64 vy, .int .i64 vm, .int .i64 vd]] W (Ret9 W (.string D))) := fun h => dayt_is (OK.out h) hD
  have TQ : Hid (∀ {W : World}, Calls Tryz.prog 32 #[.string vl] W (Ret9 W (.string Q))) := fun {W} => lexquote_is hQ (Nat.le_trans hls (by decide)) W
  have TJ : Hid (∀ {W : World} {A : Option Addr} {n c : Nat}, RdP W A n c L3 → Calls Tryz.prog 33 #[.slice A n c, .string ⟨#[44, 32]⟩] W (Ret9 W (.string J))) := fun h => join_is h n3.2.2 (by have := h.1; omega) hJ (by omega)
  have hTT : opnC vt ++ (bs9 J ++ shutC vt) = bs9 T := by rw [← hT2, ← hJ, ← hP]; rfl
  have H1 := Lib.hid h1
  have H2 := Lib.hid h2
  have H3 := Lib.hid h3
  have N1 := Lib.hid n1.1
  have HQ := Lib.hid hQ
  have N2 := Lib.hid n2.1
  clear hT hT2 hnum hn hk hs hls hok hU hD hQ h1 h2 h3 hP hlu hld hlq n1 n2 n3 hJ
  have E : Hid (SJ w ((w.alloc (.cells #[.bool true, .bool vt, .bool vb, .bool (ngB vi), .slice A n c, .int .i64 (vk : Int), .string vs, .int .i64 vy, .int .i64 vm, .int .i64 vd, .string vl] 40)).alloc (.cells #[.slice none 0 0] 77)) #[.bool true, .bool vt, .bool vb, .bool (ngB vi), .slice A n c, .int .i64 (vk : Int), .string vs, .int .i64 vy, .int .i64 vm, .int .i64 vd, .string vl] (.slice none 0 0) []) := ⟨((Below.refl _ w).alloc (Nat.le_refl _) _).alloc (by simp) _, (Bk.new w _ _ rfl).on ((Below.refl _ _).alloc (Nat.le_refl _) _), Bk.new _ _ _ (by simp), OwnP.start _ _⟩
  go_enter Tryz.func12, Tryz.ntmps12
  go_wp2_with fail
  generalize hW : World.alloc (World.alloc w _) _ = W1 at E ⊢
  clear hW
  refine cunits_is.mono ?_; rintro e1 w2 ⟨rfl, hb⟩
  replace E := Lib.hid (E.out.step hb); clear hb
  go_wp2_with fail
  refine (TU.out E.out.bel).mono ?_; rintro e1 w3 ⟨rfl, hb⟩
  replace E := Lib.hid (E.out.step hb); clear hb
  go_wp2_with fail
  refine (told_is E.out.tol E.out.own (by simp) U H1.out).mono ?_; rintro e1 w4 ⟨rfl, v4, hb, ht, ho⟩
  replace E := Lib.hid (E.out.told hb ht ho); clear hb ht ho
  have a0 := SJ.atv E 0 (y := .bool true) rfl
  have a1 := SJ.atv E 1 (y := .bool vt) rfl
  have a2 := SJ.atv E 2 (y := .bool vb) rfl
  have a3 := SJ.atv E 3 (y := .bool (ngB vi)) rfl
  have a4 := SJ.atv E 4 (y := .slice A n c) rfl
  have a5 := SJ.atv E 5 (y := .int .i64 (vk : Int)) rfl
  have a6 := SJ.atv E 6 (y := .string vs) rfl
  have a7 := SJ.atv E 7 (y := .int .i64 vy) rfl
  have a8 := SJ.atv E 8 (y := .int .i64 vm) rfl
  have a9 := SJ.atv E 9 (y := .int .i64 vd) rfl
  have a10 := SJ.atv E 10 (y := .string vl) rfl
  go_wp2_with fail
  clear a0 a1 a2 a3 a4 a5 a6 a7 a8 a9 a10
  refine (TD.out E.out.bel).mono ?_; rintro e1 w5 ⟨rfl, hb⟩
  replace E := Lib.hid (E.out.step hb); clear hb
  go_wp2_with fail
  refine (told_is E.out.tol E.out.own (by have := N1.out; omega) D H2.out).mono ?_; rintro e1 w6 ⟨rfl, v6, hb, ht, ho⟩
  replace E := Lib.hid (E.out.told hb ht ho); clear hb ht ho
  by_cases hz : bs9 vl = []
  ·obtain ⟨u1, u2⟩ := emp_facts hz
   have HL : Hid (L2 = L3) := by show _ = _; rw [← H3.out, if_neg (fun h => h hz)]
   clear hz
   obtain ⟨A3, c3, hv3, hrd⟩ := E.out.own.rd
   subst hv3
   have RJ : Hid (∀ {W : World}, RdP W A3 L2.length c3 L2 → Calls Tryz.prog 33 #[.slice A3 L2.length c3, .string ⟨#[44, 32]⟩] W (Ret9 W (.string J))) := by rw [HL.out]; exact Lib.hid fun h => TJ.out h
   have b0 := (E.out.tol.cell 0).trans (show (#[Value.slice A3 L2.length c3] : Array Value)[0]? = some (Value.slice A3 L2.length c3) from rfl)
   have bl := E.out.tol.lt
   have a0 := SJ.atv E 0 (y := .bool true) rfl
   have a1 := SJ.atv E 1 (y := .bool vt) rfl
   have a2 := SJ.atv E 2 (y := .bool vb) rfl
   have a3 := SJ.atv E 3 (y := .bool (ngB vi)) rfl
   have a4 := SJ.atv E 4 (y := .slice A n c) rfl
   have a5 := SJ.atv E 5 (y := .int .i64 (vk : Int)) rfl
   have a6 := SJ.atv E 6 (y := .string vs) rfl
   have a7 := SJ.atv E 7 (y := .int .i64 vy) rfl
   have a8 := SJ.atv E 8 (y := .int .i64 vm) rfl
   have a9 := SJ.atv E 9 (y := .int .i64 vd) rfl
   have a10 := SJ.atv E 10 (y := .string vl) rfl
   go_wp2_with fail
   clear a0 a1 a2 a3 a4 a5 a6 a7 a8 a9 a10
   clear b0 bl
   refine (RJ.out (hrd.on (Below.refl _ _))).mono ?_; rintro e1 w8 ⟨rfl, hb⟩
   replace E := Lib.hid (E.out.step hb); clear hb
   cases vt with
   | true =>
    obtain ⟨Y, hY⟩ : ∃ Y : ByteArray, [123, 123] ++ bs9 J = bs9 Y := ⟨st9 ([123, 123] ++ bs9 J), (bs9_st9 (fun c hc => by
     rcases List.mem_append.1 hc with h | h
     ·exact (show ∀ c ∈ [123, 123], c < 256 by decide) c h
     ·exact bs9_lt _ c h)).symm⟩
    have hYs : Y.size ≤ 13170 := by rw [← bs9_len, ← hY, List.length_append, bs9_len]; show _ + J.size ≤ _; simp only [List.length_cons, List.length_nil]; omega
    have ad1 : ∀ w, (Op.stringOp .add ⟨#[123, 123]⟩ J).run Tryz.prog w = .ok (.string Y) w := fun w => add9 (by rw [← hY]; rfl) (by show 2 + J.size ≤ _; omega) w
    have ad2 : ∀ w, (Op.stringOp .add Y ⟨#[125, 125]⟩).run Tryz.prog w = .ok (.string T) w := fun w => add9 (by rw [← hTT, ← hY, List.append_assoc]; rfl) (by show Y.size + 2 ≤ _; omega) w
    clear hTT hY hYs hJs
    have a1 := SJ.atv E 1 (y := .bool true) rfl
    have al := E.out.box.lt
    go_wp2_with fail
    go_ret
    exact ⟨rfl, E.out.bel⟩
   | false =>
    obtain ⟨Y, hY⟩ : ∃ Y : ByteArray, [123] ++ bs9 J = bs9 Y := ⟨st9 ([123] ++ bs9 J), (bs9_st9 (fun c hc => by
     rcases List.mem_append.1 hc with h | h
     ·exact (show ∀ c ∈ [123], c < 256 by decide) c h
     ·exact bs9_lt _ c h)).symm⟩
    have hYs : Y.size ≤ 13170 := by rw [← bs9_len, ← hY, List.length_append, bs9_len]; show _ + J.size ≤ _; simp only [List.length_cons, List.length_nil]; omega
    have ad1 : ∀ w, (Op.stringOp .add ⟨#[123]⟩ J).run Tryz.prog w = .ok (.string Y) w := fun w => add9 (by rw [← hY]; rfl) (by show 1 + J.size ≤ _; omega) w
    have ad2 : ∀ w, (Op.stringOp .add Y ⟨#[125]⟩).run Tryz.prog w = .ok (.string T) w := fun w => add9 (by rw [← hTT, ← hY, List.append_assoc]; rfl) (by show Y.size + 1 ≤ _; omega) w
    clear hTT hY hYs hJs
    have a1 := SJ.atv E 1 (y := .bool false) rfl
    have al := E.out.box.lt
    go_wp2_with fail
    go_ret
    exact ⟨rfl, E.out.bel⟩
  ·obtain ⟨u1, u2⟩ := emp_nots hz
   have HL : Hid ((if bs9 Q ≠ [] then L2 ++ [bs9 Q] else L2) = L3) := by
    show _ = _
    rw [← H3.out, if_pos hz, if_pos (by rw [← HQ.out]; exact qt_ne _)]
   clear hz
   have a0 := SJ.atv E 0 (y := .bool true) rfl
   have a1 := SJ.atv E 1 (y := .bool vt) rfl
   have a2 := SJ.atv E 2 (y := .bool vb) rfl
   have a3 := SJ.atv E 3 (y := .bool (ngB vi)) rfl
   have a4 := SJ.atv E 4 (y := .slice A n c) rfl
   have a5 := SJ.atv E 5 (y := .int .i64 (vk : Int)) rfl
   have a6 := SJ.atv E 6 (y := .string vs) rfl
   have a7 := SJ.atv E 7 (y := .int .i64 vy) rfl
   have a8 := SJ.atv E 8 (y := .int .i64 vm) rfl
   have a9 := SJ.atv E 9 (y := .int .i64 vd) rfl
   have a10 := SJ.atv E 10 (y := .string vl) rfl
   go_wp2_with fail
   clear a0 a1 a2 a3 a4 a5 a6 a7 a8 a9 a10
   refine TQ.out.mono ?_; rintro e1 w7 ⟨rfl, hb⟩
   replace E := Lib.hid (E.out.step hb); clear hb
   go_wp2_with fail
   refine (told_is E.out.tol E.out.own (by have := N2.out; omega) Q HL.out).mono ?_; rintro e1 w9 ⟨rfl, v9, hb, ht, ho⟩
   replace E := Lib.hid (E.out.told hb ht ho); clear hb ht ho
   obtain ⟨A3, c3, hv3, hrd⟩ := E.out.own.rd
   subst hv3
   have RJ : Hid (∀ {W : World}, RdP W A3 L3.length c3 L3 → Calls Tryz.prog 33 #[.slice A3 L3.length c3, .string ⟨#[44, 32]⟩] W (Ret9 W (.string J))) := TJ
   have b0 := (E.out.tol.cell 0).trans (show (#[Value.slice A3 L3.length c3] : Array Value)[0]? = some (Value.slice A3 L3.length c3) from rfl)
   have bl := E.out.tol.lt
   have a1 := SJ.atv E 1 (y := .bool vt) rfl
   have al := E.out.box.lt
   go_wp2_with fail
   clear a1 al
   clear b0 bl
   refine (RJ.out (hrd.on (Below.refl _ _))).mono ?_; rintro e1 w8 ⟨rfl, hb⟩
   replace E := Lib.hid (E.out.step hb); clear hb
   cases vt with
   | true =>
    obtain ⟨Y, hY⟩ : ∃ Y : ByteArray, [123, 123] ++ bs9 J = bs9 Y := ⟨st9 ([123, 123] ++ bs9 J), (bs9_st9 (fun c hc => by
     rcases List.mem_append.1 hc with h | h
     ·exact (show ∀ c ∈ [123, 123], c < 256 by decide) c h
     ·exact bs9_lt _ c h)).symm⟩
    have hYs : Y.size ≤ 13170 := by rw [← bs9_len, ← hY, List.length_append, bs9_len]; show _ + J.size ≤ _; simp only [List.length_cons, List.length_nil]; omega
    have ad1 : ∀ w, (Op.stringOp .add ⟨#[123, 123]⟩ J).run Tryz.prog w = .ok (.string Y) w := fun w => add9 (by rw [← hY]; rfl) (by show 2 + J.size ≤ _; omega) w
    have ad2 : ∀ w, (Op.stringOp .add Y ⟨#[125, 125]⟩).run Tryz.prog w = .ok (.string T) w := fun w => add9 (by rw [← hTT, ← hY, List.append_assoc]; rfl) (by show Y.size + 2 ≤ _; omega) w
    clear hTT hY hYs hJs
    have a1 := SJ.atv E 1 (y := .bool true) rfl
    have al := E.out.box.lt
    go_wp2_with fail
    go_ret
    exact ⟨rfl, E.out.bel⟩
   | false =>
    obtain ⟨Y, hY⟩ : ∃ Y : ByteArray, [123] ++ bs9 J = bs9 Y := ⟨st9 ([123] ++ bs9 J), (bs9_st9 (fun c hc => by
     rcases List.mem_append.1 hc with h | h
     ·exact (show ∀ c ∈ [123], c < 256 by decide) c h
     ·exact bs9_lt _ c h)).symm⟩
    have hYs : Y.size ≤ 13170 := by rw [← bs9_len, ← hY, List.length_append, bs9_len]; show _ + J.size ≤ _; simp only [List.length_cons, List.length_nil]; omega
    have ad1 : ∀ w, (Op.stringOp .add ⟨#[123]⟩ J).run Tryz.prog w = .ok (.string Y) w := fun w => add9 (by rw [← hY]; rfl) (by show 1 + J.size ≤ _; omega) w
    have ad2 : ∀ w, (Op.stringOp .add Y ⟨#[125]⟩).run Tryz.prog w = .ok (.string T) w := fun w => add9 (by rw [← hTT, ← hY, List.append_assoc]; rfl) (by show Y.size + 1 ≤ _; omega) w
    clear hTT hY hYs hJs
    have a1 := SJ.atv E 1 (y := .bool false) rfl
    have al := E.out.box.lt
    go_wp2_with fail
    go_ret
    exact ⟨rfl, E.out.bel⟩
theorem sameu14 : SAMEU := by
 intro w A A' n c n' c' v v' x hnum hnum' hok hx
 obtain ⟨vb, vi, vk, vs⟩ := v
 obtain ⟨ub, ui, uk, us⟩ := v'
 have E := Lib.hid (((S14.start w).more hnum).more hnum')
 obtain ⟨b0, hb0⟩ : ∃ b, (vb == ub) = b := ⟨_, rfl⟩
 obtain ⟨b1, hb1⟩ : ∃ b, alikeB vi vk ui uk = b := ⟨_, rfl⟩
 obtain ⟨b2, hb2⟩ : ∃ b, (vs.toList == us.toList) = b := ⟨_, rfl⟩
 have HX : Hid ((b0 && (b1 && b2)) = x) := by
  show _ = _
  rw [← hx, ← hb0, ← hb1, ← hb2, txt_eq, Bool.eq_iff_iff]
  unfold sameU alikeB
  simp only [Bool.and_eq_true, beq_iff_eq, decide_eq_true_iff]
  exact ⟨fun h => ⟨h.1, h.2.1.1, h.2.1.2, h.2.2⟩, fun h => ⟨h.1, ⟨h.2.1, h.2.2.1⟩, h.2.2.2⟩⟩
 have HB1 := Lib.hid hb1
 clear hnum hnum' hok hx hb1
 cases b0 with
 | false =>
  obtain rfl : false = x := HX.out
  go_enter Tryz.func10, Tryz.ntmps10
  go_wp2_with fail
  replace E := Lib.hid ((E.out.lay #[.bool vb, .bool (ngB vi), .slice A n c, .int .i64 (vk : Int), .string vs] 30 (g := w.heap.size) rfl).lay #[.bool ub, .bool (ngB ui), .slice A' n' c', .int .i64 (uk : Int), .string us] 30 (g := w.heap.size + 1) (by simp))
  generalize hW : World.alloc (World.alloc w _) _ = W1 at E ⊢
  clear hW
  go_ret
  exact ⟨rfl, E.out.bel⟩
 | true =>
  go_enter Tryz.func10, Tryz.ntmps10
  go_wp2_with fail
  replace E := Lib.hid ((E.out.lay #[.bool vb, .bool (ngB vi), .slice A n c, .int .i64 (vk : Int), .string vs] 30 (g := w.heap.size) rfl).lay #[.bool ub, .bool (ngB ui), .slice A' n' c', .int .i64 (uk : Int), .string us] 30 (g := w.heap.size + 1) (by simp))
  generalize hW : World.alloc (World.alloc w _) _ = W1 at E ⊢
  clear hW
  refine (alike_is5 (S14.got (A := A) (n := n) (c := c) (a := vi.natAbs) E (by simp)) (S14.got (A := A') (n := n') (c := c') (a := ui.natAbs) E (by simp)) HB1.out).mono ?_; rintro e1 w2 ⟨rfl, hb⟩
  replace E := Lib.hid (E.out.step hb); clear hb
  cases b1 with
  | false =>
   obtain rfl : false = x := HX.out
   go_wp2_with fail
   go_ret
   exact ⟨rfl, E.out.bel⟩
  | true =>
   obtain rfl : b2 = x := HX.out
   obtain ⟨r0, r1, r2, r3, r4, rf0, rf1, rf2, rf3, rf4, rlt⟩ := S14.all5 (g := w.heap.size) (t := 30) (x0 := .bool vb) (x1 := .bool (ngB vi)) (x2 := .slice A n c) (x3 := .int .i64 (vk : Int)) (x4 := .string vs) E (by simp)
   obtain ⟨s0, s1, s2, s3, s4, sf0, sf1, sf2, sf3, sf4, slt⟩ := S14.all5 (g := (w.heap.size + 1)) (t := 30) (x0 := .bool ub) (x1 := .bool (ngB ui)) (x2 := .slice A' n' c') (x3 := .int .i64 (uk : Int)) (x4 := .string us) E (by simp)
   go_wp2_with fail
   go_ret
   exact ⟨rfl, E.out.bel⟩
theorem samep14 : SAMEP := by
 intro w A A' n c n' c' v v' x hnum hnum' hok hx
 obtain ⟨vh, vt, vb, vi, vk, vs⟩ := v
 obtain ⟨uh, ut, ub, ui, uk, us⟩ := v'
 have OK : Hid (∀ {W : World}, Below w.heap.size w W → Ok12 W) := fun hb => okw12 hok hb
 have E := Lib.hid (((S14.start w).more hnum).more hnum')
 obtain ⟨b0, hb0⟩ : ∃ b, (vh == uh) = b := ⟨_, rfl⟩
 obtain ⟨b1, hb1⟩ : ∃ b, (vt == ut) = b := ⟨_, rfl⟩
 obtain ⟨b2, hb2⟩ : ∃ b, sameU ⟨vb, vi, vk, vs⟩ ⟨ub, ui, uk, us⟩ = b := ⟨_, rfl⟩
 have HX : Hid ((b0 && (b1 && b2)) = x) := by
  show _ = _
  rw [← hx, ← hb0, ← hb1, ← hb2, Bool.eq_iff_iff]
  unfold sameU sameP
  simp only [Bool.and_eq_true, beq_iff_eq, decide_eq_true_iff]
 have HS : Hid (∀ {W : World} {l bs}, S14 w W ((A', n', c', ui.natAbs) :: (A, n, c, vi.natAbs) :: l) bs → Calls Tryz.prog 10 #[.agg #[.bool vb, .bool (ngB vi), .slice A n c, .int .i64 (vk : Int), .string vs], .agg #[.bool ub, .bool (ngB ui), .slice A' n' c', .int .i64 (uk : Int), .string us]] W (Ret9 W (.bool b2))) := fun h => sameu14 (v := ⟨vb, vi, vk, vs⟩) (v' := ⟨ub, ui, uk, us⟩) (h.num (A, n, c, vi.natAbs) (by simp)) (h.num _ List.mem_cons_self) (OK.out h.bel) hb2
 clear hnum hnum' hok hx hb2
 cases b0 with
 | false =>
  obtain rfl : false = x := HX.out
  go_enter Tryz.func16, Tryz.ntmps16
  go_wp2_with fail
  replace E := Lib.hid ((E.out.lay #[.bool vh, .bool vt, .bool vb, .bool (ngB vi), .slice A n c, .int .i64 (vk : Int), .string vs] 46 (g := w.heap.size) rfl).lay #[.bool uh, .bool ut, .bool ub, .bool (ngB ui), .slice A' n' c', .int .i64 (uk : Int), .string us] 46 (g := w.heap.size + 1) (by simp))
  generalize hW : World.alloc (World.alloc w _) _ = W1 at E ⊢
  clear hW
  obtain ⟨r0, r1, r2, r3, r4, r5, r6, rf0, rf1, rf2, rf3, rf4, rf5, rf6, rlt⟩ := S14.all7 (g := w.heap.size) (t := 46) (x0 := .bool vh) (x1 := .bool vt) (x2 := .bool vb) (x3 := .bool (ngB vi)) (x4 := .slice A n c) (x5 := .int .i64 (vk : Int)) (x6 := .string vs) E (by simp)
  obtain ⟨s0, s1, s2, s3, s4, s5, s6, sf0, sf1, sf2, sf3, sf4, sf5, sf6, slt⟩ := S14.all7 (g := (w.heap.size + 1)) (t := 46) (x0 := .bool uh) (x1 := .bool ut) (x2 := .bool ub) (x3 := .bool (ngB ui)) (x4 := .slice A' n' c') (x5 := .int .i64 (uk : Int)) (x6 := .string us) E (by simp)
  go_quiet (fail)
  clear r0 r1 r2 r3 r4 r5 r6 rf0 rf1 rf2 rf3 rf4 rf5 rf6 rlt
  clear s0 s1 s2 s3 s4 s5 s6 sf0 sf1 sf2 sf3 sf4 sf5 sf6 slt
  go_wp2_with fail
  go_ret
  exact ⟨rfl, E.out.bel.trans ((below_drewN (Below.refl _ _) _).mono E.out.bel.size)⟩
 | true =>
  cases b1 with
  | false =>
   obtain rfl : false = x := HX.out
   go_enter Tryz.func16, Tryz.ntmps16
   go_wp2_with fail
   replace E := Lib.hid ((E.out.lay #[.bool vh, .bool vt, .bool vb, .bool (ngB vi), .slice A n c, .int .i64 (vk : Int), .string vs] 46 (g := w.heap.size) rfl).lay #[.bool uh, .bool ut, .bool ub, .bool (ngB ui), .slice A' n' c', .int .i64 (uk : Int), .string us] 46 (g := w.heap.size + 1) (by simp))
   generalize hW : World.alloc (World.alloc w _) _ = W1 at E ⊢
   clear hW
   obtain ⟨r0, r1, r2, r3, r4, r5, r6, rf0, rf1, rf2, rf3, rf4, rf5, rf6, rlt⟩ := S14.all7 (g := w.heap.size) (t := 46) (x0 := .bool vh) (x1 := .bool vt) (x2 := .bool vb) (x3 := .bool (ngB vi)) (x4 := .slice A n c) (x5 := .int .i64 (vk : Int)) (x6 := .string vs) E (by simp)
   obtain ⟨s0, s1, s2, s3, s4, s5, s6, sf0, sf1, sf2, sf3, sf4, sf5, sf6, slt⟩ := S14.all7 (g := (w.heap.size + 1)) (t := 46) (x0 := .bool uh) (x1 := .bool ut) (x2 := .bool ub) (x3 := .bool (ngB ui)) (x4 := .slice A' n' c') (x5 := .int .i64 (uk : Int)) (x6 := .string us) E (by simp)
   go_quiet (fail)
   clear r0 r1 r2 r3 r4 r5 r6 rf0 rf1 rf2 rf3 rf4 rf5 rf6 rlt
   clear s0 s1 s2 s3 s4 s5 s6 sf0 sf1 sf2 sf3 sf4 sf5 sf6 slt
   go_wp2_with fail
   go_ret
   exact ⟨rfl, E.out.bel.trans ((below_drewN (Below.refl _ _) _).mono E.out.bel.size)⟩
  | true =>
   obtain rfl : b2 = x := HX.out
   go_enter Tryz.func16, Tryz.ntmps16
   go_wp2_with fail
   replace E := Lib.hid ((E.out.lay #[.bool vh, .bool vt, .bool vb, .bool (ngB vi), .slice A n c, .int .i64 (vk : Int), .string vs] 46 (g := w.heap.size) rfl).lay #[.bool uh, .bool ut, .bool ub, .bool (ngB ui), .slice A' n' c', .int .i64 (uk : Int), .string us] 46 (g := w.heap.size + 1) (by simp))
   generalize hW : World.alloc (World.alloc w _) _ = W1 at E ⊢
   clear hW
   have a0 := S14.atv E (y := .bool vh) (g := w.heap.size) (xs := #[.bool vh, .bool vt, .bool vb, .bool (ngB vi), .slice A n c, .int .i64 (vk : Int), .string vs]) (t := 46) (by simp) 0 rfl
   have a1 := S14.atv E (y := .bool vt) (g := w.heap.size) (xs := #[.bool vh, .bool vt, .bool vb, .bool (ngB vi), .slice A n c, .int .i64 (vk : Int), .string vs]) (t := 46) (by simp) 1 rfl
   have a2 := S14.atv E (y := .bool vb) (g := w.heap.size) (xs := #[.bool vh, .bool vt, .bool vb, .bool (ngB vi), .slice A n c, .int .i64 (vk : Int), .string vs]) (t := 46) (by simp) 2 rfl
   have a3 := S14.atv E (y := .bool (ngB vi)) (g := w.heap.size) (xs := #[.bool vh, .bool vt, .bool vb, .bool (ngB vi), .slice A n c, .int .i64 (vk : Int), .string vs]) (t := 46) (by simp) 3 rfl
   have a4 := S14.atv E (y := .slice A n c) (g := w.heap.size) (xs := #[.bool vh, .bool vt, .bool vb, .bool (ngB vi), .slice A n c, .int .i64 (vk : Int), .string vs]) (t := 46) (by simp) 4 rfl
   have a5 := S14.atv E (y := .int .i64 (vk : Int)) (g := w.heap.size) (xs := #[.bool vh, .bool vt, .bool vb, .bool (ngB vi), .slice A n c, .int .i64 (vk : Int), .string vs]) (t := 46) (by simp) 5 rfl
   have a6 := S14.atv E (y := .string vs) (g := w.heap.size) (xs := #[.bool vh, .bool vt, .bool vb, .bool (ngB vi), .slice A n c, .int .i64 (vk : Int), .string vs]) (t := 46) (by simp) 6 rfl
   have a7 := S14.atv E (y := .bool uh) (g := w.heap.size + 1) (xs := #[.bool uh, .bool ut, .bool ub, .bool (ngB ui), .slice A' n' c', .int .i64 (uk : Int), .string us]) (t := 46) (by simp) 0 rfl
   have a8 := S14.atv E (y := .bool ut) (g := w.heap.size + 1) (xs := #[.bool uh, .bool ut, .bool ub, .bool (ngB ui), .slice A' n' c', .int .i64 (uk : Int), .string us]) (t := 46) (by simp) 1 rfl
   have a9 := S14.atv E (y := .bool ub) (g := w.heap.size + 1) (xs := #[.bool uh, .bool ut, .bool ub, .bool (ngB ui), .slice A' n' c', .int .i64 (uk : Int), .string us]) (t := 46) (by simp) 2 rfl
   have a10 := S14.atv E (y := .bool (ngB ui)) (g := w.heap.size + 1) (xs := #[.bool uh, .bool ut, .bool ub, .bool (ngB ui), .slice A' n' c', .int .i64 (uk : Int), .string us]) (t := 46) (by simp) 3 rfl
   have a11 := S14.atv E (y := .slice A' n' c') (g := w.heap.size + 1) (xs := #[.bool uh, .bool ut, .bool ub, .bool (ngB ui), .slice A' n' c', .int .i64 (uk : Int), .string us]) (t := 46) (by simp) 4 rfl
   have a12 := S14.atv E (y := .int .i64 (uk : Int)) (g := w.heap.size + 1) (xs := #[.bool uh, .bool ut, .bool ub, .bool (ngB ui), .slice A' n' c', .int .i64 (uk : Int), .string us]) (t := 46) (by simp) 5 rfl
   have a13 := S14.atv E (y := .string us) (g := w.heap.size + 1) (xs := #[.bool uh, .bool ut, .bool ub, .bool (ngB ui), .slice A' n' c', .int .i64 (uk : Int), .string us]) (t := 46) (by simp) 6 rfl
   replace E := Lib.hid (E.out.step (Below.refl _ _).drew)
   go_region_held3 (fun v => v.cell? ⟨w.heap.size, 0, none⟩ = some (.bool vh) ∧ v.cell? ⟨w.heap.size, 1, none⟩ = some (.bool vt) ∧ v.cell? ⟨w.heap.size, 2, none⟩ = some (.bool vb) ∧ v.cell? ⟨w.heap.size, 3, none⟩ = some (.bool (ngB vi)) ∧ v.cell? ⟨w.heap.size, 4, none⟩ = some (.slice A n c) ∧ v.cell? ⟨w.heap.size, 5, none⟩ = some (.int .i64 (vk : Int)) ∧ v.cell? ⟨w.heap.size, 6, none⟩ = some (.string vs) ∧ v.cell? ⟨w.heap.size + 1, 0, none⟩ = some (.bool uh) ∧ v.cell? ⟨w.heap.size + 1, 1, none⟩ = some (.bool ut) ∧ v.cell? ⟨w.heap.size + 1, 2, none⟩ = some (.bool ub) ∧ v.cell? ⟨w.heap.size + 1, 3, none⟩ = some (.bool (ngB ui)) ∧ v.cell? ⟨w.heap.size + 1, 4, none⟩ = some (.slice A' n' c') ∧ v.cell? ⟨w.heap.size + 1, 5, none⟩ = some (.int .i64 (uk : Int)) ∧ v.cell? ⟨w.heap.size + 1, 6, none⟩ = some (.string us)) (first | with_reducible exact ⟨S14.atv E (y := .bool vh) (g := w.heap.size) (xs := #[.bool vh, .bool vt, .bool vb, .bool (ngB vi), .slice A n c, .int .i64 (vk : Int), .string vs]) (t := 46) (by simp) 0 rfl, S14.atv E (y := .bool vt) (g := w.heap.size) (xs := #[.bool vh, .bool vt, .bool vb, .bool (ngB vi), .slice A n c, .int .i64 (vk : Int), .string vs]) (t := 46) (by simp) 1 rfl, S14.atv E (y := .bool vb) (g := w.heap.size) (xs := #[.bool vh, .bool vt, .bool vb, .bool (ngB vi), .slice A n c, .int .i64 (vk : Int), .string vs]) (t := 46) (by simp) 2 rfl, S14.atv E (y := .bool (ngB vi)) (g := w.heap.size) (xs := #[.bool vh, .bool vt, .bool vb, .bool (ngB vi), .slice A n c, .int .i64 (vk : Int), .string vs]) (t := 46) (by simp) 3 rfl, S14.atv E (y := .slice A n c) (g := w.heap.size) (xs := #[.bool vh, .bool vt, .bool vb, .bool (ngB vi), .slice A n c, .int .i64 (vk : Int), .string vs]) (t := 46) (by simp) 4 rfl, S14.atv E (y := .int .i64 (vk : Int)) (g := w.heap.size) (xs := #[.bool vh, .bool vt, .bool vb, .bool (ngB vi), .slice A n c, .int .i64 (vk : Int), .string vs]) (t := 46) (by simp) 5 rfl, S14.atv E (y := .string vs) (g := w.heap.size) (xs := #[.bool vh, .bool vt, .bool vb, .bool (ngB vi), .slice A n c, .int .i64 (vk : Int), .string vs]) (t := 46) (by simp) 6 rfl, S14.atv E (y := .bool uh) (g := w.heap.size + 1) (xs := #[.bool uh, .bool ut, .bool ub, .bool (ngB ui), .slice A' n' c', .int .i64 (uk : Int), .string us]) (t := 46) (by simp) 0 rfl, S14.atv E (y := .bool ut) (g := w.heap.size + 1) (xs := #[.bool uh, .bool ut, .bool ub, .bool (ngB ui), .slice A' n' c', .int .i64 (uk : Int), .string us]) (t := 46) (by simp) 1 rfl, S14.atv E (y := .bool ub) (g := w.heap.size + 1) (xs := #[.bool uh, .bool ut, .bool ub, .bool (ngB ui), .slice A' n' c', .int .i64 (uk : Int), .string us]) (t := 46) (by simp) 2 rfl, S14.atv E (y := .bool (ngB ui)) (g := w.heap.size + 1) (xs := #[.bool uh, .bool ut, .bool ub, .bool (ngB ui), .slice A' n' c', .int .i64 (uk : Int), .string us]) (t := 46) (by simp) 3 rfl, S14.atv E (y := .slice A' n' c') (g := w.heap.size + 1) (xs := #[.bool uh, .bool ut, .bool ub, .bool (ngB ui), .slice A' n' c', .int .i64 (uk : Int), .string us]) (t := 46) (by simp) 4 rfl, S14.atv E (y := .int .i64 (uk : Int)) (g := w.heap.size + 1) (xs := #[.bool uh, .bool ut, .bool ub, .bool (ngB ui), .slice A' n' c', .int .i64 (uk : Int), .string us]) (t := 46) (by simp) 5 rfl, S14.atv E (y := .string us) (g := w.heap.size + 1) (xs := #[.bool uh, .bool ut, .bool ub, .bool (ngB ui), .slice A' n' c', .int .i64 (uk : Int), .string us]) (t := 46) (by simp) 6 rfl⟩ | go_keep) (first | (go_at_call 34; refine punits_is.mono ?_; rintro e w5 ⟨rfl, hb⟩; replace E := Lib.hid (E.out.step hb); clear hb) | (go_at_call 10; refine (HS.out E.out).mono ?_; rintro e w6 ⟨rfl, hb⟩; replace E := Lib.hid (E.out.step hb); clear hb))
   all_goals
    go_wp2_with fail
    go_ret
    exact ⟨rfl, E.out.bel⟩
end Go.Proofs.YtjonoedomgacaaaGreatDoor.Num
