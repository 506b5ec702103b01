/- What the proof needs, texts ExpZa, ExpWd, ExpWv, in one text. -/
import Derived.Test.YtdpkbglfebimcaaGreatDoorAll37
import Derived.Shelf.Abstract
import Derived.Test.YtdpkbglfebimcaaGreatDoorAll28
set_option linter.unusedVariables false
set_option linter.unusedSimpArgs false
namespace Go.Proofs.YtdpkbglfebimcaaGreatDoor.Num
open Go.RowKit
theorem isAt_one {L : List Tok} {a x y : Nat} (h : isAt L a x = true) (hxy : x ≠ y) : isAt L a y = false := by
  unfold isAt at h ⊢
  cases hl : L[a]? with
  | none => rfl
  | some t =>
    rw [hl] at h
    have h2 : isg t x = true := h
    show isg t y = false
    unfold isg at h2 ⊢
    rw [Bool.and_eq_true, decide_eq_true_iff, decide_eq_true_iff] at h2
    rw [h2.2, decide_eq_false (p := [x] = [y]) (fun e => hxy (List.cons.inj e).1), Bool.and_false]
theorem chn_sum {L : List Tok} {G : Nat → Nat → Int → Nat → Prop} (hL : Siz L G) (i d : Nat) : Chn L G i (PRO L d) (fun v k a => SUML L d v k a) 43 45 where
  sx := .inl rfl
  sy := .inr (.inl rfl)
  fin := fun h1 h2 => SUML_end h1 h2
  err := fun h h2 => SUML_err h h2
  go := fun {v k a j t b z} hz ha hp _ => by
    rcases hz with rfl | rfl
    · exact SUML_add ha hp
    · exact SUML_sub (isAt_one ha (by decide)) ha hp
  bad := fun {v k a j t b z} hz _ _ h0 => by
    rcases hz with rfl | rfl
    · exact absurd h0 (Nat.lt_irrefl 0)
    · exact absurd h0 (Nat.lt_irrefl 0)
  grt := fun {v k a j t b z} hz hg hp _ => by
    rcases hz with rfl | rfl
    · exact hL.add hg (hL.pro hp)
    · exact hL.sub hg (hL.pro hp)
  rng := fun h => hL.rng h
  fits := fun h => hL.fits h
  pgrt := fun h => hL.pro h
  len := fun hg hp hj => hL.qlen hg (hL.pro hp) hj
theorem jnd_quo {i j : Int} {s t : Nat} (hj : j ≠ 0) : jnd 47 i s j t = (quoI i s j t, quoK i s j t, 0) := by
  show quv i s j t = _
  unfold quv; rw [if_neg hj]
theorem jnd_zero {i j : Int} {s t : Nat} (hj : j = 0) : jnd 47 i s j t = (0, 0, 4) := by
  show quv i s j t = _
  unfold quv; rw [if_pos hj]
theorem chn_pro {L : List Tok} {G : Nat → Nat → Int → Nat → Prop} (hL : Siz L G) (i d : Nat) : Chn L G i (FAC L d) (fun v k a => PROL L d v k a) 42 47 where
  sx := .inr (.inr (.inl rfl))
  sy := .inr (.inr (.inr rfl))
  fin := fun h1 h2 => PROL_end h1 h2
  err := fun h h2 => PROL_err h h2
  go := fun {v k a j t b z} hz ha hp h0 => by
    rcases hz with rfl | rfl
    · exact PROL_mul ha hp
    · by_cases hj : j = 0
      · rw [jnd_zero hj] at h0; cases h0
      · rw [jnd_quo hj]; exact PROL_quo (isAt_one ha (by decide)) ha hp hj
  bad := fun {v k a j t b z} hz ha hp h0 => by
    rcases hz with rfl | rfl
    · exact absurd h0 (Nat.lt_irrefl 0)
    · by_cases hj : j = 0
      · rw [jnd_zero hj]; exact ⟨PROL_zero (isAt_one ha (by decide)) ha hp hj, rfl, rfl⟩
      · rw [jnd_quo hj] at h0; exact absurd h0 (Nat.lt_irrefl 0)
  grt := fun {v k a j t b z} hz hg hp h0 => by
    rcases hz with rfl | rfl
    · exact hL.mul hg (hL.fac hp)
    · by_cases hj : j = 0
      · rw [jnd_zero hj] at h0; cases h0
      · rw [jnd_quo hj]; exact hL.quo hg (hL.fac hp) hj
  rng := fun h => hL.rng h
  fits := fun h => hL.fits h
  pgrt := fun h => hL.fac h
  len := fun hg hp hj => hL.qlen hg (hL.fac hp) hj
set_option maxHeartbeats 8000000 in
set_option maxRecDepth 100000 in
theorem psum {L : List Tk4} {i : Nat} {G : Nat → Nat → Int → Nat → Prop} (hL : Siz (L.map tok) G) (hi : i ≤ L.length) (HP : ∀ a, i ≤ a → a ≤ L.length → ProP L a) : SumP L i := by
  intro w g B n c d A hs hr hm hp hn hd
  have hent : ∀ (args : Array Value) (W : World), (callFunc 47 args).run Tryz.prog W = .ok (.enter 47 args) W := enters_of Tryz.func47 (by kernel_rfl) rfl
  have HE := Lib.hid hent
  have hmf : ∀ (fn : Fn) (first cap : Array Value) (w : World), (Instr.makeFunc fn first cap).run Tryz.prog w = .ok (.func fn first cap) w := fun _ _ _ _ => rfl
  clear hent
  have hlen := hr.len
  have hgw := hs.lt
  have E := Lib.hid (sy_start hs hr hm hp)
  have CN := chn_sum (L := L.map tok) hL i d
  have HPP : Hid (∀ a, i ≤ a → a ≤ n → ∀ w' : World, StP w' g A n c a d → RdK w' B A n c L → MaxLen w' → Calls Tryz.prog 47 #[.pointer (some ⟨g, 0, none⟩)] w' (RetX w' g A n c d (PRO (L.map tok) d a))) := fun a h1 h2 w' q1 q2 q3 => HP a h1 (by omega) q1 q2 q3 hp hn hd
  have hin : i ≤ n := by omega
  clear hs hr hm hlen
  go_enter Tryz.func25, Tryz.ntmps25
  go_wp2_with fail
  generalize hW : World.alloc w _ = W1 at E ⊢
  have hsz : w.heap.size + 1 = W1.heap.size := by rw [← hW]; simp
  clear hW
  have SG := Lib.hid (sgn_two W1 ⟨#[43]⟩ ⟨#[45]⟩ 9 (q := w.heap.size + 1) hsz)
  replace E := Lib.hid (E.out.alloc (.cells #[.string ⟨#[43]⟩, .string ⟨#[45]⟩] 9))
  generalize hV : World.alloc W1 _ = V1 at E SG ⊢
  clear hV
  refine (pchain (i := i) (s1 := ⟨#[43]⟩) (s2 := ⟨#[45]⟩) (S := SUM (L.map tok) d i) E.out.st E.out.rd E.out.mx hp hn hd HE.out hin CN rfl rfl SG.out ⟨fun e h => SUM_err h, fun v k b h => SUM_go h⟩ HPP.out).mono ?_; rintro e w9 ⟨x9, k9, A9, n9, c9, i9, e9, rfl, hnum9, hst9, hkp9, hout⟩
  replace E := Lib.hid (SY.push (SY.call E.out hkp9 hst9) hnum9)
  clear hnum9 hst9 hkp9
  have HO := Lib.hid hout
  clear hout
  obtain ⟨r0, r1, r2, rf0, rf1, rf2, rlt⟩ := SY.at_ (x0 := .bool false) (x1 := .slice none 0 0) (x2 := .int .i64 0) (g1 := w.heap.size) E (by simp)
  go_wp2_with fail
  clear r0 r1 r2 rf0 rf1 rf2 rlt
  have EF := Lib.hid (SY.put E.out (g1 := w.heap.size) (b := false) (A1 := none) (n1 := 0) (c1 := 0) (k1 := 0) (by simp) [] (fun q hq => by cases hq) (.bool (ngB x9)) (.slice A9 n9 c9) (.int .i64 (k9 : Int)))
  obtain ⟨r0, r1, r2, _, _, _, _⟩ := SY.at_ (x0 := .bool (ngB x9)) (x1 := .slice A9 n9 c9) (x2 := .int .i64 (k9 : Int)) (g1 := w.heap.size) EF (by simp)
  exact bodyPost_ret (v := .tuple #[.agg #[.bool (ngB x9), .slice A9 n9 c9, .int .i64 (k9 : Int)], .int .i64 (e9 : Int)]) (by simp [results, Tryz.results25, go_sem, r0, r1, r2]) rfl ⟨x9, k9, A9, n9, c9, i9, e9, rfl, SY.got EF (by simp), EF.out.st, EF.out.kp, HO.out⟩
set_option maxHeartbeats 8000000 in
set_option maxRecDepth 100000 in
theorem pprod {L : List Tk4} {i : Nat} {G : Nat → Nat → Int → Nat → Prop} (hL : Siz (L.map tok) G) (hi : i ≤ L.length) (HP : ∀ a, i ≤ a → a ≤ L.length → FacP L a) : ProP L i := by
  intro w g B n c d A hs hr hm hp hn hd
  have hent : ∀ (args : Array Value) (W : World), (callFunc 80 args).run Tryz.prog W = .ok (.enter 80 args) W := enters_of Tryz.func80 (by kernel_rfl) rfl
  have HE := Lib.hid hent
  have hmf : ∀ (fn : Fn) (first cap : Array Value) (w : World), (Instr.makeFunc fn first cap).run Tryz.prog w = .ok (.func fn first cap) w := fun _ _ _ _ => rfl
  clear hent
  have hlen := hr.len
  have hgw := hs.lt
  have E := Lib.hid (sy_start hs hr hm hp)
  have CN := chn_pro (L := L.map tok) hL i d
  have HPP : Hid (∀ a, i ≤ a → a ≤ n → ∀ w' : World, StP w' g A n c a d → RdK w' B A n c L → MaxLen w' → Calls Tryz.prog 80 #[.pointer (some ⟨g, 0, none⟩)] w' (RetX w' g A n c d (FAC (L.map tok) d a))) := fun a h1 h2 w' q1 q2 q3 => HP a h1 (by omega) q1 q2 q3 hp hn hd
  have hin : i ≤ n := by omega
  clear hs hr hm hlen
  go_enter Tryz.func47, Tryz.ntmps47
  go_wp2_with fail
  generalize hW : World.alloc w _ = W1 at E ⊢
  have hsz : w.heap.size + 1 = W1.heap.size := by rw [← hW]; simp
  clear hW
  have SG := Lib.hid (sgn_two W1 ⟨#[42]⟩ ⟨#[47]⟩ 9 (q := w.heap.size + 1) hsz)
  replace E := Lib.hid (E.out.alloc (.cells #[.string ⟨#[42]⟩, .string ⟨#[47]⟩] 9))
  generalize hV : World.alloc W1 _ = V1 at E SG ⊢
  clear hV
  refine (pchain (i := i) (s1 := ⟨#[42]⟩) (s2 := ⟨#[47]⟩) (S := PRO (L.map tok) d i) E.out.st E.out.rd E.out.mx hp hn hd HE.out hin CN rfl rfl SG.out ⟨fun e h => PRO_err h, fun v k b h => PRO_go h⟩ HPP.out).mono ?_; rintro e w9 ⟨x9, k9, A9, n9, c9, i9, e9, rfl, hnum9, hst9, hkp9, hout⟩
  replace E := Lib.hid (SY.push (SY.call E.out hkp9 hst9) hnum9)
  clear hnum9 hst9 hkp9
  have HO := Lib.hid hout
  clear hout
  obtain ⟨r0, r1, r2, rf0, rf1, rf2, rlt⟩ := SY.at_ (x0 := .bool false) (x1 := .slice none 0 0) (x2 := .int .i64 0) (g1 := w.heap.size) E (by simp)
  go_wp2_with fail
  clear r0 r1 r2 rf0 rf1 rf2 rlt
  have EF := Lib.hid (SY.put E.out (g1 := w.heap.size) (b := false) (A1 := none) (n1 := 0) (c1 := 0) (k1 := 0) (by simp) [] (fun q hq => by cases hq) (.bool (ngB x9)) (.slice A9 n9 c9) (.int .i64 (k9 : Int)))
  obtain ⟨r0, r1, r2, _, _, _, _⟩ := SY.at_ (x0 := .bool (ngB x9)) (x1 := .slice A9 n9 c9) (x2 := .int .i64 (k9 : Int)) (g1 := w.heap.size) EF (by simp)
  exact bodyPost_ret (v := .tuple #[.agg #[.bool (ngB x9), .slice A9 n9 c9, .int .i64 (k9 : Int)], .int .i64 (e9 : Int)]) (by simp [results, Tryz.results47, go_sem, r0, r1, r2]) rfl ⟨x9, k9, A9, n9, c9, i9, e9, rfl, SY.got EF (by simp), EF.out.st, EF.out.kp, HO.out⟩
theorem pall {L : List Tk4} {G : Nat → Nat → Int → Nat → Prop} (hL : Siz (L.map tok) G) : ∀ m i, i ≤ L.length → L.length - i < m → FacP L i ∧ ProP L i ∧ SumP L i := by
  intro m
  induction m with
  | zero => intro i _ h; omega
  | succ m ih =>
    intro i hi hm
    have later : ∀ j, i < j → j ≤ L.length → FacP L j ∧ ProP L j ∧ SumP L j := fun j h1 h2 => ih j h2 (by omega)
    have F : FacP L i := pfactor hL hi (fun h => (later (i + 1) (by omega) (by omega)).2.2) (fun h => (later (i + 1) (by omega) (by omega)).1)
    have P : ProP L i := pprod hL hi fun j h1 h2 => by
      rcases Nat.eq_or_lt_of_le h1 with rfl | h3
      · exact F
      · exact (later j h3 h2).1
    have S : SumP L i := psum hL hi fun j h1 h2 => by
      rcases Nat.eq_or_lt_of_le h1 with rfl | h3
      · exact P
      · exact (later j h3 h2).2.1
    exact ⟨F, P, S⟩
theorem psum_at {L : List Tk4} {G : Nat → Nat → Int → Nat → Prop} (hL : Siz (L.map tok) G) {i : Nat} (hi : i ≤ L.length) : SumP L i := (pall hL (L.length + 1) i hi (by omega)).2.2
set_option maxHeartbeats 8000000 in
set_option maxRecDepth 100000 in
theorem peval_bad {w : World} {B n c : Nat} {A : Option Addr} {L : List Tk4} (hr : RdK w B A n c L) (hn : n ≤ 200) {a : Int} (ha : a < 0 ∨ (n : Int) < a) :
    Calls Tryz.prog 9 #[.slice A n c, .int .i64 a] w (RetE w (0, 0, a, 1)) := by
  have E := Lib.hid ((St.start w (l := []) (by intro q hq; cases hq)).lay (g := w.heap.size) (x0 := .bool false) (x1 := .slice none 0 0) (x2 := .int .i64 0) (t := 26) rfl)
  clear hr
  by_cases h : a < 0
  · have d1 : decide (a < 0) = true := decide_eq_true h
    go_enter Tryz.func9, Tryz.ntmps9
    go_wp2_with fail
    obtain ⟨r0, r1, r2, _, _, _, _⟩ := St.at_ (x0 := .bool false) (x1 := .slice none 0 0) (x2 := .int .i64 0) (g := w.heap.size) E (by simp)
    exact bodyPost_ret (v := .tuple #[.agg #[.bool false, .slice none 0 0, .int .i64 0], .int .i64 a, .int .i64 1]) (by simp [results, Tryz.results9, go_sem, r0, r1, r2]) rfl ⟨none, 0, 0, rfl, num_zero _ _, E.out.bel⟩
  · have d1 : decide (a < 0) = false := decide_eq_false (by omega)
    have d2 : decide ((n : Int) < a) = true := decide_eq_true (by omega)
    go_enter Tryz.func9, Tryz.ntmps9
    go_wp2_with fail
    obtain ⟨r0, r1, r2, _, _, _, _⟩ := St.at_ (x0 := .bool false) (x1 := .slice none 0 0) (x2 := .int .i64 0) (g := w.heap.size) E (by simp)
    exact bodyPost_ret (v := .tuple #[.agg #[.bool false, .slice none 0 0, .int .i64 0], .int .i64 a, .int .i64 1]) (by simp [results, Tryz.results9, go_sem, r0, r1, r2]) rfl ⟨none, 0, 0, rfl, num_zero _ _, E.out.bel⟩
theorem stp_new (v : World) {g n c a : Nat} {A : Option Addr} (h : g = v.heap.size) : StP (v.alloc (.cells #[.slice A n c, .int .i64 (a : Int), .int .i64 0] 53)) g A n c a 0 := by
  subst h; exact heap_alloc_new v _
set_option maxHeartbeats 8000000 in
set_option maxRecDepth 100000 in
theorem peval_ok {w : World} {B n c i : Nat} {A : Option Addr} {L : List Tk4} (hr : RdK w B A n c L) (hB : B ≤ w.heap.size) (hn : n ≤ 200) {G : Nat → Nat → Int → Nat → Prop} (hL : Siz (L.map tok) G) (hi : i ≤ n) (hm : MaxLen w) :
    Calls Tryz.prog 9 #[.slice A n c, .int .i64 (i : Int)] w (RetE w (evl (L.map tok) (i : Int))) := by
  have hlen := hr.len
  have HSUM : SumP L i := psum_at hL (by omega)
  have d1 : decide ((i : Int) < 0) = false := decide_eq_false (by omega)
  have d2 : decide ((n : Int) < (i : Int)) = false := decide_eq_false (by omega)
  have d3 : decide (n < i) = false := decide_eq_false (by omega)
  have HV : Hid (evl (L.map tok) (i : Int) = match SUM (L.map tok) 0 i with | .inl (z, b) => (0, 0, (b : Int), z) | .inr (x, k, b) => (x, k, (b : Int), 0)) := by
    show _ = _
    unfold evl
    rw [if_neg (by rw [List.length_map]; omega)]
    rfl
  have E0 := (St.start w (l := []) (by intro q hq; cases hq)).lay (g := w.heap.size) (x0 := .bool false) (x1 := .slice none 0 0) (x2 := .int .i64 0) (t := 26) rfl
  have hb1 : Below w.heap.size w ((w.alloc (.cells #[.bool false, .slice none 0 0, .int .i64 0] 26)).alloc (.cells #[.slice A n c, .int .i64 (i : Int), .int .i64 0] 53)) := ((Below.refl _ _).alloc (Nat.le_refl _) _).alloc (by simp) _
  have HR := Lib.hid (hr.on hB hb1)
  have HM := Lib.hid (hm.on hb1)
  have HE := Lib.hid (E0.alloc (.cells #[.slice A n c, .int .i64 (i : Int), .int .i64 0] 53))
  have HS : Hid (StP _ (w.heap.size + 1) A n c i 0) := stp_new (w.alloc (.cells #[.bool false, .slice none 0 0, .int .i64 0] 26)) (by simp)
  clear hr hlen hb1 E0 hm
  go_enter Tryz.func9, Tryz.ntmps9
  go_wp2_with fail
  generalize hW : World.alloc (World.alloc w _) _ = W1 at HR HM HE HS ⊢
  clear hW
  refine (HSUM HS.out HR.out HM.out (by omega) hn (by omega)).mono ?_; rintro e w9 ⟨x9, k9, A9, n9, c9, i9, e9, rfl, hnum9, hst9, hkp9, hout⟩
  have hbel : Below w.heap.size w w9 := HE.out.bel.trans (hkp9.below (Nat.le_succ _) (fun g e => by cases e) HE.out.bel.size)
  have hbox : Box w9 w.heap.size (.bool false) (.slice none 0 0) (.int .i64 0) := (St.at_ HE (by simp)).kp hkp9 (by omega)
  have E : Hid (St w w9 [(A9, n9, c9, x9.natAbs)] [(w.heap.size, .bool false, .slice none 0 0, .int .i64 0)]) := ⟨hbel, fun q hq => by simp at hq; subst hq; exact hnum9, fun q hq => by simp at hq; subst hq; exact ⟨hbox, Nat.le_refl _⟩⟩
  have S9 := Lib.hid hst9
  have hlt9 : w.heap.size < w9.heap.size := hbox.lt
  have hgl9 := hst9.lt
  have HV2 : Hid (evl (L.map tok) (i : Int) = (x9, k9, (i9 : Int), e9)) := by
    show _ = _
    rw [HV.out]
    cases hS : SUM (L.map tok) 0 i with
    | inl r =>
      obtain ⟨z, b⟩ := r
      rw [hS] at hout
      obtain ⟨-, rfl, rfl, rfl, rfl⟩ := hout
      rfl
    | inr r =>
      obtain ⟨j, s, b⟩ := r
      rw [hS] at hout
      obtain ⟨rfl, rfl, rfl, rfl⟩ := hout
      rfl
  clear hnum9 hst9 hkp9 hbel hbox hout HR HE HS HM HV
  obtain ⟨g, hg⟩ : ∃ g, w.heap.size + 1 = g := ⟨_, rfl⟩
  have n1 : g ≠ w.heap.size := by omega
  have n2 : w.heap.size ≠ g := by omega
  rw [hg] at S9 hgl9 ⊢
  clear hg
  obtain ⟨p0, p1, p2, pf0, pf1, pf2, plt⟩ := S9.out.bx
  obtain ⟨r0, r1, r2, rf0, rf1, rf2, rlt⟩ := St.at_ (x0 := .bool false) (x1 := .slice none 0 0) (x2 := .int .i64 0) (g := w.heap.size) E (by simp)
  go_wp2_with fail
  clear p0 p1 p2 pf0 pf1 pf2 plt r0 r1 r2 rf0 rf1 rf2 rlt
  replace S9 := Lib.hid (S9.out.on ((Below.refl _ w9).alloc (Nat.le_refl _) (.cells #[.bool (ngB x9), .slice A9 n9 c9, .int .i64 (k9 : Int)] 26)))
  replace E := Lib.hid (E.out.lay (g := w9.heap.size) (x0 := .bool (ngB x9)) (x1 := .slice A9 n9 c9) (x2 := .int .i64 (k9 : Int)) (t := 26) rfl)
  generalize hV : World.alloc w9 _ = V at E S9 ⊢
  clear hV
  obtain ⟨p0, p1, p2, pf0, pf1, pf2, plt⟩ := S9.out.bx
  obtain ⟨r0, r1, r2, rf0, rf1, rf2, rlt⟩ := St.at_ (x0 := .bool false) (x1 := .slice none 0 0) (x2 := .int .i64 0) (g := w.heap.size) E (by simp)
  obtain ⟨y0, y1, y2, yf0, yf1, yf2, ylt⟩ := St.at_ (x0 := .bool (ngB x9)) (x1 := .slice A9 n9 c9) (x2 := .int .i64 (k9 : Int)) (g := w9.heap.size) E (by simp)
  go_region
  go_wp2_with fail
  clear p0 p1 p2 pf0 pf1 pf2 plt r0 r1 r2 rf0 rf1 rf2 rlt y0 y1 y2 yf0 yf1 yf2 ylt
  have EF := Lib.hid (St.store E.out (g := w.heap.size) (x0 := .bool false) (x1 := .slice none 0 0) (x2 := .int .i64 0) (by simp) (noLimb_bool _) (noLimb_slice _ _ _) (noLimb_int _) [] (fun q hq => by cases hq) (.bool (ngB x9)) (.slice A9 n9 c9) (.int .i64 (k9 : Int)))
  replace EF := Lib.hid EF.out.drew
  obtain ⟨r0, r1, r2, _, _, _, _⟩ := St.at_ (x0 := .bool (ngB x9)) (x1 := .slice A9 n9 c9) (x2 := .int .i64 (k9 : Int)) (g := w.heap.size) EF (by simp)
  exact bodyPost_ret (v := .tuple #[.agg #[.bool (ngB x9), .slice A9 n9 c9, .int .i64 (k9 : Int)], .int .i64 (i9 : Int), .int .i64 (e9 : Int)]) (by simp [results, Tryz.results9, go_sem, r0, r1, r2]) rfl (by rw [HV2.out]; exact ⟨A9, n9, c9, rfl, St.got EF (by simp), EF.out.bel⟩)
/-- What the laws ask of the program. -/
theorem peval {w : World} {B n c : Nat} {A : Option Addr} {L : List Tk4} (a : Int) (hr : RdK w B A n c L) (hB : B ≤ w.heap.size) (hn : n ≤ 200) {G : Nat → Nat → Int → Nat → Prop} (hL : Siz (L.map tok) G) (hm : MaxLen w) : Calls Tryz.prog 9 #[.slice A n c, .int .i64 a] w (RetE w (evl (L.map tok) a)) := by
  have hlen := hr.len
  by_cases h : a < 0 ∨ (n : Int) < a
  · have e : evl (L.map tok) a = (0, 0, a, 1) := by unfold evl; rw [if_pos (by rw [List.length_map, ← hlen]; exact h)]
    rw [e]; exact peval_bad hr hn h
  · obtain ⟨i, rfl⟩ : ∃ i : Nat, (i : Int) = a := ⟨a.toNat, by omega⟩
    exact peval_ok hr hB hn hL (by omega) hm
theorem evl13 : EVL Ok12 := fun {w B n c A L} a hr hB hn hL hok => peval a hr hB hn (siz_many hL (by rw [List.length_map]; have := hr.len; omega)) hok.2.1
/-- Few words, but longer ones. -/
theorem evlq13 {w : World} {B n c : Nat} {A : Option Addr} {L : List Tk4} (a : Int) (hr : RdK w B A n c L) (hB : B ≤ w.heap.size) (hn : n ≤ 15) (hL : ∀ t ∈ L.map tok, t.2.size ≤ 180) (hok : Ok12 w) : Calls Tryz.prog 9 #[.slice A n c, .int .i64 a] w (RetE w (evl (L.map tok) a)) :=
  peval a hr hB (by omega) (siz_few hL (by rw [List.length_map]; have := hr.len; omega)) hok.2.1
theorem quo13 : QUO Ok12 := fun {w A A' n c n' c' s t i j} h h' hn hn' hs ht _ => pquo h h' (by omega) (by omega) (by omega) (by omega) fun hj => by
  have := (quoQ_size (t := t) (Sz.of_len (x := i) (s := s) (n := 12) (by have := h.len; omega)) hj).nine
  omega
theorem sts13 : STS Ok12 := by intro k T l c w _; exact pstarts rfl l c
end Go.Proofs.YtdpkbglfebimcaaGreatDoor.Num
namespace Go.Proofs.YtdpkbglfebimcaaGreatDoor.Num
open Go.RowKit
theorem words_us {w : World} {s : ByteArray} {us : List (Nat × List Nat)} (hok : Ok12 w) (hs : s.size ≤ 1000) (hw : Wds (bs9 s) us) :
    Calls Tryz.prog 17 #[.string s] w (fun e w' => ∃ A c L, e = .returned (.slice A us.length c) ∧ L.map tok = us.map tk ∧ RdK w' w'.heap.size A us.length c L ∧ Below w.heap.size w w') := by
  obtain ⟨ts, h1, h2⟩ := hw 0
  have hl : ts.length = us.length := by rw [← h2, List.length_map]
  refine (words13 hok hs h1).mono fun e w' ⟨A, c, he, hr, hb⟩ => ?_
  rw [hl] at he hr
  exact ⟨A, c, tks 1 ts, he, tks_tk 1 h2, hr, hb⟩
theorem st9_sz (a : List Nat) : (st9 a).size = a.length := by
  show (a.map UInt8.ofNat).toArray.size = _
  simp
theorem evl_inl {L : List Tok} {z b : Nat} (h : SUM L 0 0 = .inl (z, b)) : evl L 0 = (0, 0, (b : Int), z) := by
  unfold evl
  rw [if_neg (by omega)]
  show (match SUM L 0 0 with | .inl (z, b) => _ | .inr (x, k, b) => _) = _
  rw [h]
theorem evl_inr {L : List Tok} {x : Int} {k b : Nat} (h : SUM L 0 0 = .inr (x, k, b)) : evl L 0 = (x, k, (b : Int), 0) := by
  unfold evl
  rw [if_neg (by omega)]
  show (match SUM L 0 0 with | .inl (z, b) => _ | .inr (x, k, b) => _) = _
  rw [h]
end Go.Proofs.YtdpkbglfebimcaaGreatDoor.Num
namespace Go.Proofs.YtdpkbglfebimcaaGreatDoor.Num
open Go.RowKit
/-- Two texts, one behind the other. -/
theorem cat9 {X Y : ByteArray} {a b : List Nat} (hX : bs9 X = a) (hY : bs9 Y = b) (ha : a.length ≤ 10000) (hb : b.length ≤ 10000) : ∃ Z, bs9 Z = a ++ b ∧ ∀ w, (Op.stringOp .add X Y).run Tryz.prog w = .ok (.string Z) w := by
  have hlt : ∀ y ∈ a ++ b, y < 256 := fun y hy => by
    rcases List.mem_append.1 hy with h | h
    · rw [← hX] at h; exact bs9_lt X y h
    · rw [← hY] at h; exact bs9_lt Y y h
  refine ⟨st9 (a ++ b), bs9_st9 hlt, fun w => add9 (z := st9 (a ++ b)) (by rw [hX, hY, bs9_st9 hlt]) ?_ w⟩
  have h1 := bs9_len X
  have h2 := bs9_len Y
  rw [hX] at h1
  rw [hY] at h2
  omega
theorem bod_len {a n s : Nat} (h : (dg a).length ≤ n) (hn : n ≤ 12) (hs : s ≤ 60) : (bod a s).length ≤ 170 := by
  have h1 : a < 10 ^ (9 * n) := ten_of_len h
  have h2 : a / 10 ^ s < 10 ^ (107 + 1) := Nat.lt_of_le_of_lt (Nat.div_le_self _ _) (Nat.lt_of_lt_of_le h1 (Nat.pow_le_pow_right (by omega) (by omega)))
  have h3 : (txt (a / 10 ^ s)).length ≤ 108 := nd_le_of_lt 107 h2
  unfold bod
  rw [List.length_append]
  have h4 : (beh s a).length ≤ 61 := by
    unfold beh
    split
    · show 0 ≤ 61; omega
    · rw [List.length_cons, pad_len]; omega
  omega
theorem tT_small {i : Int} {n s : Nat} (h : (dg i.natAbs).length ≤ n) (hn : n ≤ 12) (hs : s ≤ 60) : (∀ u ∈ tT i s, u.2.length ≤ 180) ∧ (tT i s).length ≤ 2 ∧ (txtD i s).length ≤ 180 := by
  have h1 := bod_len h hn hs
  refine ⟨fun u hu => ?_, ?_, ?_⟩
  · unfold tT at hu
    split at hu
    · rcases List.mem_cons.1 hu with rfl | hu
      · show 1 ≤ 180; omega
      · rw [List.mem_singleton] at hu; subst hu; show (bod _ _).length ≤ 180; omega
    · rw [List.mem_singleton] at hu; subst hu; show (bod _ _).length ≤ 180; omega
  · unfold tT; split
    · show 2 ≤ 2; omega
    · show 1 ≤ 2; omega
  · rw [txtD_bod, List.length_append]
    have : (sgT i).length ≤ 1 := by unfold sgT; split <;> simp
    omega
def vA (i j l : Int) (s t u : Nat) : List (Nat × List Nat) := tT i s ++ ((10, [43]) :: (tT j t ++ ((10, [42]) :: (tT l u ++ []))))
def vB (i j l : Int) (s t u : Nat) (Q : List (Nat × List Nat)) : List (Nat × List Nat) := (10, [40]) :: (tT i s ++ ((10, [43]) :: (tT j t ++ ((10, [41]) :: (10, [42]) :: (tT l u ++ Q)))))
def vC (i j l : Int) (s t u : Nat) : List (Nat × List Nat) := (10, [40]) :: (10, [40]) :: (tT i s ++ ((10, [41]) :: (10, [41]) :: (10, [45]) :: (tT j t ++ ((10, [45]) :: (tT l u ++ [])))))
section
variable {i j l : Int} {s t u n1 n2 n3 : Nat} (h1 : (dg i.natAbs).length ≤ n1) (h2 : (dg j.natAbs).length ≤ n2) (h3 : (dg l.natAbs).length ≤ n3) (m1 : n1 ≤ 12) (m2 : n2 ≤ 12) (m3 : n3 ≤ 12) (t1 : s ≤ 60) (t2 : t ≤ 60) (t3 : u ≤ 60)
include h1 h2 h3 m1 m2 m3 t1 t2 t3
theorem vA_small : (∀ t' ∈ (vA i j l s t u).map tk, t'.2.size ≤ 180) ∧ (vA i j l s t u).length ≤ 15 := by
  obtain ⟨a1, a2, -⟩ := tT_small h1 m1 t1
  obtain ⟨b1, b2, -⟩ := tT_small h2 m2 t2
  obtain ⟨c1, c2, -⟩ := tT_small h3 m3 t3
  refine ⟨fun t' ht => ?_, by unfold vA; simp; omega⟩
  obtain ⟨q, hq, rfl⟩ := List.mem_map.1 ht
  show (st9 q.2).size ≤ 180
  rw [st9_sz]
  unfold vA at hq
  simp only [List.mem_append, List.mem_cons, List.not_mem_nil, or_false] at hq
  rcases hq with hq | rfl | hq | rfl | hq
  · exact a1 q hq
  · show 1 ≤ 180; omega
  · exact b1 q hq
  · show 1 ≤ 180; omega
  · exact c1 q hq
theorem vB_small {Q : List (Nat × List Nat)} (hQ : ∀ q ∈ Q, q.2.length ≤ 180) (hQ2 : Q.length ≤ 1) : (∀ t' ∈ (vB i j l s t u Q).map tk, t'.2.size ≤ 180) ∧ (vB i j l s t u Q).length ≤ 15 := by
  obtain ⟨a1, a2, -⟩ := tT_small h1 m1 t1
  obtain ⟨b1, b2, -⟩ := tT_small h2 m2 t2
  obtain ⟨c1, c2, -⟩ := tT_small h3 m3 t3
  refine ⟨fun t' ht => ?_, by unfold vB; simp; omega⟩
  obtain ⟨q, hq, rfl⟩ := List.mem_map.1 ht
  show (st9 q.2).size ≤ 180
  rw [st9_sz]
  unfold vB at hq
  simp only [List.mem_append, List.mem_cons] at hq
  rcases hq with rfl | hq | rfl | hq | rfl | rfl | hq | hq
  · show 1 ≤ 180; omega
  · exact a1 q hq
  · show 1 ≤ 180; omega
  · exact b1 q hq
  · show 1 ≤ 180; omega
  · show 1 ≤ 180; omega
  · exact c1 q hq
  · exact hQ q hq
theorem vC_small : (∀ t' ∈ (vC i j l s t u).map tk, t'.2.size ≤ 180) ∧ (vC i j l s t u).length ≤ 15 := by
  obtain ⟨a1, a2, -⟩ := tT_small h1 m1 t1
  obtain ⟨b1, b2, -⟩ := tT_small h2 m2 t2
  obtain ⟨c1, c2, -⟩ := tT_small h3 m3 t3
  refine ⟨fun t' ht => ?_, by unfold vC; simp; omega⟩
  obtain ⟨q, hq, rfl⟩ := List.mem_map.1 ht
  show (st9 q.2).size ≤ 180
  rw [st9_sz]
  unfold vC at hq
  simp only [List.mem_append, List.mem_cons, List.not_mem_nil, or_false] at hq
  rcases hq with rfl | rfl | hq | rfl | rfl | rfl | hq | rfl | hq
  · show 1 ≤ 180; omega
  · show 1 ≤ 180; omega
  · exact a1 q hq
  · show 1 ≤ 180; omega
  · show 1 ≤ 180; omega
  · show 1 ≤ 180; omega
  · exact b1 q hq
  · show 1 ≤ 180; omega
  · exact c1 q hq
end
theorem vA_worth (i j l : Int) (s t u : Nat) : evl ((vA i j l s t u).map tk) 0 = (addZ i s (j * l) (t + u), max s (t + u), ((vA i j l s t u).length : Int), 0) := by
  rw [evl_inr (ev_mul i j l s t u (L := (vA i j l s t u).map tk) rfl), List.length_map]
theorem vB_worth (i j l : Int) (s t u : Nat) : evl ((vB i j l s t u [(3, [85, 83, 68])]).map tk) 0 = (addZ i s j t * l, max s t + u, ((vB i j l s t u []).length : Int), 0) := by
  have e : (vB i j l s t u [(3, [85, 83, 68])]).map tk = tk (10, [40]) :: ((tT i s).map tk ++ (tk (10, [43]) :: ((tT j t).map tk ++ (tk (10, [41]) :: tk (10, [42]) :: ((tT l u).map tk ++ [tk (3, [85, 83, 68])]))))) := by
    unfold vB
    rw [List.map_cons, List.map_append, List.map_cons, List.map_append, List.map_cons, List.map_cons, List.map_append]; rfl
  have hq : EndQ [tk (3, [85, 83, 68])] := fun t ht => by
    obtain rfl := Option.some.inj ht
    show (3 : Int) ≠ 10
    decide
  rw [evl_inr (ev_par i j l s t u hq e), List.length_map]
  have hlen : (vB i j l s t u [(3, [85, 83, 68])]).length - [tk (3, [85, 83, 68])].length = (vB i j l s t u []).length := by unfold vB; simp; omega
  rw [hlen]
theorem vC_worth (i j l : Int) (s t u : Nat) : evl ((vC i j l s t u).map tk) 0 = (subZ (subZ i s j t) (max s t) l u, max (max s t) u, ((vC i j l s t u).length : Int), 0) := by
  rw [evl_inr (ev_sub i j l s t u (L := (vC i j l s t u).map tk) rfl), List.length_map]
set_option maxHeartbeats 16000000 in
set_option maxRecDepth 100000 in
theorem values_long1 {w : World} (hok : Ok12 w) {b1 b2 b3 : Bool} {A1 A2 A3 : Option Addr} {n1 c1 n2 c2 n3 c3 : Nat} {xs1 xs2 xs3 : List Nat} {k1 k2 k3 : Int} (h1 : Lim w w.heap.size A1 n1 c1 xs1) (h2 : Lim w w.heap.size A2 n2 c2 xs2) (h3 : Lim w w.heap.size A3 n3 c3 xs3) (l1 : longB b1 n1 xs1 k1 = true) : Calls Tryz.prog 4 #[.agg #[.bool b1, .slice A1 n1 c1, .int .i64 k1], .agg #[.bool b2, .slice A2 n2 c2, .int .i64 k2], .agg #[.bool b3, .slice A3 n3 c3, .int .i64 k3]] w (Ret9 w (.bool true)) := by
  have HB := Lib.hid ((((Below.refl _ w).alloc (Nat.le_refl _) (.cells #[.bool b1, .slice A1 n1 c1, .int .i64 k1] 26)).alloc (by simp) (.cells #[.bool b2, .slice A2 n2 c2, .int .i64 k2] 26)).alloc (by simp; omega) (.cells #[.bool b3, .slice A3 n3 c3, .int .i64 k3] 26))
  have X1 := Lib.hid (Box.newAt (g := w.heap.size) w (.bool b1) (.slice A1 n1 c1) (.int .i64 k1) 26 rfl |>.alloc (.cells #[.bool b2, .slice A2 n2 c2, .int .i64 k2] 26) |>.alloc (.cells #[.bool b3, .slice A3 n3 c3, .int .i64 k3] 26))
  have X2 := Lib.hid (Box.newAt (g := w.heap.size + 1) (w.alloc (.cells #[.bool b1, .slice A1 n1 c1, .int .i64 k1] 26)) (.bool b2) (.slice A2 n2 c2) (.int .i64 k2) 26 (by simp) |>.alloc (.cells #[.bool b3, .slice A3 n3 c3, .int .i64 k3] 26))
  have X3 := Lib.hid (Box.newAt (g := w.heap.size + 1 + 1) ((w.alloc (.cells #[.bool b1, .slice A1 n1 c1, .int .i64 k1] 26)).alloc (.cells #[.bool b2, .slice A2 n2 c2, .int .i64 k2] 26)) (.bool b3) (.slice A3 n3 c3) (.int .i64 k3) 26 (by simp))
  have H1 := Lib.hid (h1.on HB.out)
  have H2 := Lib.hid (h2.on HB.out)
  have H3 := Lib.hid (h3.on HB.out)
  have HOK := Lib.hid hok
  have L1 := Lib.hid l1
  clear h1 h2 h3 hok l1
  go_enter Tryz.func4, Tryz.ntmps4
  go_wp2_with fail
  generalize hW : World.alloc (World.alloc (World.alloc w _) _) _ = W0 at HB X1 X2 X3 H1 H2 H3 ⊢
  clear hW
  refine (long_is H1.out L1.out).mono ?_; rintro e v1 ⟨rfl, hb⟩
  replace H1 := Lib.hid (H1.out.on hb); replace H2 := Lib.hid (H2.out.on hb); replace H3 := Lib.hid (H3.out.on hb)
  replace X1 := Lib.hid (X1.out.on hb); replace X2 := Lib.hid (X2.out.on hb); replace X3 := Lib.hid (X3.out.on hb)
  replace HB := Lib.hid (HB.out.trans (hb.mono HB.out.size)); clear hb
  go_wp2_with fail
  refine (awake13 evl13 quo13 sts13 _ (okw12 HOK.out HB.out)).mono ?_; rintro e v9 ⟨rfl, hb⟩
  replace HB := Lib.hid (HB.out.trans (hb.mono HB.out.size)); clear hb
  go_wp2_with fail
  go_ret
  exact ⟨rfl, HB.out⟩
set_option maxHeartbeats 16000000 in
set_option maxRecDepth 100000 in
theorem values_long2 {w : World} (hok : Ok12 w) {b1 b2 b3 : Bool} {A1 A2 A3 : Option Addr} {n1 c1 n2 c2 n3 c3 : Nat} {xs1 xs2 xs3 : List Nat} {k1 k2 k3 : Int} (h1 : Lim w w.heap.size A1 n1 c1 xs1) (h2 : Lim w w.heap.size A2 n2 c2 xs2) (h3 : Lim w w.heap.size A3 n3 c3 xs3) (l1 : longB b1 n1 xs1 k1 = false) (l2 : longB b2 n2 xs2 k2 = true) : Calls Tryz.prog 4 #[.agg #[.bool b1, .slice A1 n1 c1, .int .i64 k1], .agg #[.bool b2, .slice A2 n2 c2, .int .i64 k2], .agg #[.bool b3, .slice A3 n3 c3, .int .i64 k3]] w (Ret9 w (.bool true)) := by
  have HB := Lib.hid ((((Below.refl _ w).alloc (Nat.le_refl _) (.cells #[.bool b1, .slice A1 n1 c1, .int .i64 k1] 26)).alloc (by simp) (.cells #[.bool b2, .slice A2 n2 c2, .int .i64 k2] 26)).alloc (by simp; omega) (.cells #[.bool b3, .slice A3 n3 c3, .int .i64 k3] 26))
  have X1 := Lib.hid (Box.newAt (g := w.heap.size) w (.bool b1) (.slice A1 n1 c1) (.int .i64 k1) 26 rfl |>.alloc (.cells #[.bool b2, .slice A2 n2 c2, .int .i64 k2] 26) |>.alloc (.cells #[.bool b3, .slice A3 n3 c3, .int .i64 k3] 26))
  have X2 := Lib.hid (Box.newAt (g := w.heap.size + 1) (w.alloc (.cells #[.bool b1, .slice A1 n1 c1, .int .i64 k1] 26)) (.bool b2) (.slice A2 n2 c2) (.int .i64 k2) 26 (by simp) |>.alloc (.cells #[.bool b3, .slice A3 n3 c3, .int .i64 k3] 26))
  have X3 := Lib.hid (Box.newAt (g := w.heap.size + 1 + 1) ((w.alloc (.cells #[.bool b1, .slice A1 n1 c1, .int .i64 k1] 26)).alloc (.cells #[.bool b2, .slice A2 n2 c2, .int .i64 k2] 26)) (.bool b3) (.slice A3 n3 c3) (.int .i64 k3) 26 (by simp))
  have H1 := Lib.hid (h1.on HB.out)
  have H2 := Lib.hid (h2.on HB.out)
  have H3 := Lib.hid (h3.on HB.out)
  have HOK := Lib.hid hok
  have L1 := Lib.hid l1
  have L2 := Lib.hid l2
  clear h1 h2 h3 hok l1 l2
  go_enter Tryz.func4, Tryz.ntmps4
  go_wp2_with fail
  generalize hW : World.alloc (World.alloc (World.alloc w _) _) _ = W0 at HB X1 X2 X3 H1 H2 H3 ⊢
  clear hW
  refine (long_is H1.out L1.out).mono ?_; rintro e v1 ⟨rfl, hb⟩
  replace H1 := Lib.hid (H1.out.on hb); replace H2 := Lib.hid (H2.out.on hb); replace H3 := Lib.hid (H3.out.on hb)
  replace X1 := Lib.hid (X1.out.on hb); replace X2 := Lib.hid (X2.out.on hb); replace X3 := Lib.hid (X3.out.on hb)
  replace HB := Lib.hid (HB.out.trans (hb.mono HB.out.size)); clear hb
  obtain ⟨p0, p1, p2, pf0, pf1, pf2, plt⟩ := X2.out
  go_wp2_with fail
  clear p0 p1 p2 pf0 pf1 pf2 plt
  refine (long_is H2.out L2.out).mono ?_; rintro e v2 ⟨rfl, hb⟩
  replace H1 := Lib.hid (H1.out.on hb); replace H2 := Lib.hid (H2.out.on hb); replace H3 := Lib.hid (H3.out.on hb)
  replace X1 := Lib.hid (X1.out.on hb); replace X2 := Lib.hid (X2.out.on hb); replace X3 := Lib.hid (X3.out.on hb)
  replace HB := Lib.hid (HB.out.trans (hb.mono HB.out.size)); clear hb
  go_wp2_with fail
  refine (awake13 evl13 quo13 sts13 _ (okw12 HOK.out HB.out)).mono ?_; rintro e v9 ⟨rfl, hb⟩
  replace HB := Lib.hid (HB.out.trans (hb.mono HB.out.size)); clear hb
  go_wp2_with fail
  go_ret
  exact ⟨rfl, HB.out⟩
set_option maxHeartbeats 16000000 in
set_option maxRecDepth 100000 in
theorem values_long3 {w : World} (hok : Ok12 w) {b1 b2 b3 : Bool} {A1 A2 A3 : Option Addr} {n1 c1 n2 c2 n3 c3 : Nat} {xs1 xs2 xs3 : List Nat} {k1 k2 k3 : Int} (h1 : Lim w w.heap.size A1 n1 c1 xs1) (h2 : Lim w w.heap.size A2 n2 c2 xs2) (h3 : Lim w w.heap.size A3 n3 c3 xs3) (l1 : longB b1 n1 xs1 k1 = false) (l2 : longB b2 n2 xs2 k2 = false) (l3 : longB b3 n3 xs3 k3 = true) : Calls Tryz.prog 4 #[.agg #[.bool b1, .slice A1 n1 c1, .int .i64 k1], .agg #[.bool b2, .slice A2 n2 c2, .int .i64 k2], .agg #[.bool b3, .slice A3 n3 c3, .int .i64 k3]] w (Ret9 w (.bool true)) := by
  have HB := Lib.hid ((((Below.refl _ w).alloc (Nat.le_refl _) (.cells #[.bool b1, .slice A1 n1 c1, .int .i64 k1] 26)).alloc (by simp) (.cells #[.bool b2, .slice A2 n2 c2, .int .i64 k2] 26)).alloc (by simp; omega) (.cells #[.bool b3, .slice A3 n3 c3, .int .i64 k3] 26))
  have X1 := Lib.hid (Box.newAt (g := w.heap.size) w (.bool b1) (.slice A1 n1 c1) (.int .i64 k1) 26 rfl |>.alloc (.cells #[.bool b2, .slice A2 n2 c2, .int .i64 k2] 26) |>.alloc (.cells #[.bool b3, .slice A3 n3 c3, .int .i64 k3] 26))
  have X2 := Lib.hid (Box.newAt (g := w.heap.size + 1) (w.alloc (.cells #[.bool b1, .slice A1 n1 c1, .int .i64 k1] 26)) (.bool b2) (.slice A2 n2 c2) (.int .i64 k2) 26 (by simp) |>.alloc (.cells #[.bool b3, .slice A3 n3 c3, .int .i64 k3] 26))
  have X3 := Lib.hid (Box.newAt (g := w.heap.size + 1 + 1) ((w.alloc (.cells #[.bool b1, .slice A1 n1 c1, .int .i64 k1] 26)).alloc (.cells #[.bool b2, .slice A2 n2 c2, .int .i64 k2] 26)) (.bool b3) (.slice A3 n3 c3) (.int .i64 k3) 26 (by simp))
  have H1 := Lib.hid (h1.on HB.out)
  have H2 := Lib.hid (h2.on HB.out)
  have H3 := Lib.hid (h3.on HB.out)
  have HOK := Lib.hid hok
  have L1 := Lib.hid l1
  have L2 := Lib.hid l2
  have L3 := Lib.hid l3
  clear h1 h2 h3 hok l1 l2 l3
  go_enter Tryz.func4, Tryz.ntmps4
  go_wp2_with fail
  generalize hW : World.alloc (World.alloc (World.alloc w _) _) _ = W0 at HB X1 X2 X3 H1 H2 H3 ⊢
  clear hW
  refine (long_is H1.out L1.out).mono ?_; rintro e v1 ⟨rfl, hb⟩
  replace H1 := Lib.hid (H1.out.on hb); replace H2 := Lib.hid (H2.out.on hb); replace H3 := Lib.hid (H3.out.on hb)
  replace X1 := Lib.hid (X1.out.on hb); replace X2 := Lib.hid (X2.out.on hb); replace X3 := Lib.hid (X3.out.on hb)
  replace HB := Lib.hid (HB.out.trans (hb.mono HB.out.size)); clear hb
  obtain ⟨p0, p1, p2, pf0, pf1, pf2, plt⟩ := X2.out
  go_wp2_with fail
  clear p0 p1 p2 pf0 pf1 pf2 plt
  refine (long_is H2.out L2.out).mono ?_; rintro e v2 ⟨rfl, hb⟩
  replace H1 := Lib.hid (H1.out.on hb); replace H2 := Lib.hid (H2.out.on hb); replace H3 := Lib.hid (H3.out.on hb)
  replace X1 := Lib.hid (X1.out.on hb); replace X2 := Lib.hid (X2.out.on hb); replace X3 := Lib.hid (X3.out.on hb)
  replace HB := Lib.hid (HB.out.trans (hb.mono HB.out.size)); clear hb
  obtain ⟨p0, p1, p2, pf0, pf1, pf2, plt⟩ := X3.out
  go_wp2_with fail
  clear p0 p1 p2 pf0 pf1 pf2 plt
  refine (long_is H3.out L3.out).mono ?_; rintro e v3 ⟨rfl, hb⟩
  replace H1 := Lib.hid (H1.out.on hb); replace H2 := Lib.hid (H2.out.on hb); replace H3 := Lib.hid (H3.out.on hb)
  replace X1 := Lib.hid (X1.out.on hb); replace X2 := Lib.hid (X2.out.on hb); replace X3 := Lib.hid (X3.out.on hb)
  replace HB := Lib.hid (HB.out.trans (hb.mono HB.out.size)); clear hb
  go_wp2_with fail
  refine (awake13 evl13 quo13 sts13 _ (okw12 HOK.out HB.out)).mono ?_; rintro e v9 ⟨rfl, hb⟩
  replace HB := Lib.hid (HB.out.trans (hb.mono HB.out.size)); clear hb
  go_wp2_with fail
  go_ret
  exact ⟨rfl, HB.out⟩
section
variable {o : Oper} {ρ : Operand → Value} {x y : Operand} {w : World}
theorem e_add13 {X Y Z : ByteArray} {t t' : TypeId} (hc : ∀ w, (Op.stringOp .add X Y).run Tryz.prog w = .ok (.string Z) w) (h : o.op = .binOp .add t x y t') (hx : ρ x = .string X) (hy : ρ y = .string Y) : (execOp ρ o).run Tryz.prog w = .ok (.value (.string Z)) w := by
  obtain ⟨_, op, _, _, _, _⟩ := o
  subst h
  simp [execOp, go_sem, hx, hy, hc]
end
theorem words_usM {w : World} {s : ByteArray} {us : List (Nat × List Nat)} {M : Nat} (hok : Ok12 w) (hs : s.size ≤ 1000) (hw : Wds (bs9 s) us) (hM : us.length = M) :
    Calls Tryz.prog 17 #[.string s] w (fun e w' => ∃ A c, e = .returned (.slice A M c) ∧ Below w.heap.size w w') :=
  (words_us hok hs hw).mono fun e w' ⟨A, c, _, he, _, _, hb⟩ => ⟨A, c, by rw [he, hM], hb⟩
def vvzT : List Row3 := [(some 78, none, .move (.tmp 12)), (some 79, none, .binOp .eql 31 (.tmp 78) (.const (.int .i64 0)) 31), (some 80, none, .move (.tmp 79)), (some 81, some (2, true), .move (.tmp 11)), (some 82, some (2, true), .move (.tmp 7)), (some 83, some (2, true), .binOp .add 9 (.tmp 82) (.const (.string ⟨#[32, 43, 32]⟩)) 9), (some 84, some (2, true), .move (.tmp 8)), (some 85, some (2, true), .binOp .add 9 (.tmp 83) (.tmp 84) 9), (some 86, some (2, true), .binOp .add 9 (.tmp 85) (.const (.string ⟨#[32, 42, 32]⟩)) 9), (some 87, some (2, true), .move (.tmp 9)), (some 88, some (2, true), .binOp .add 9 (.tmp 86) (.tmp 87) 9), (some 89, some (2, true), .call { callee := .value (.func 17), args := #[.tmp 88], argTypes := #[9] }), (some 90, some (2, true), .call { callee := .builtin .len, args := #[.tmp 89], argTypes := #[22] }), (some 91, some (2, true), .binOp .eql 3 (.tmp 81) (.tmp 90) 3), (some 92, none, .pick (.tmp 80) (.tmp 91) (.const (.bool false))), (some 93, none, .move (.tmp 92)), (some 94, some (15, true), .load 26 (.tmp 10)), (some 95, some (15, true), .load 26 (.tmp 3)), (some 96, some (15, true), .load 26 (.tmp 4)), (some 97, some (15, true), .load 26 (.tmp 5)), (some 98, some (15, true), .call { callee := .value (.func 20), args := #[.tmp 96, .tmp 97], argTypes := #[26, 26] }), (some 99, some (15, true), .call { callee := .value (.func 19), args := #[.tmp 95, .tmp 98], argTypes := #[26, 26] }), (some 100, some (15, true), .call { callee := .value (.func 18), args := #[.tmp 94, .tmp 99], argTypes := #[26, 26] }), (some 101, none, .pick (.tmp 93) (.tmp 100) (.const (.bool false))), (some 102, none, .move (.tmp 101)), (some 103, some (24, true), .move (.tmp 15)), (some 104, some (24, true), .binOp .eql 31 (.tmp 103) (.const (.int .i64 0)) 31), (some 105, none, .pick (.tmp 102) (.tmp 104) (.const (.bool false))), (some 106, none, .move (.tmp 105)), (some 107, some (28, true), .move (.tmp 14)), (some 108, some (28, true), .move (.tmp 7)), (some 109, some (28, true), .binOp .add 9 (.const (.string ⟨#[40]⟩)) (.tmp 108) 9), (some 110, some (28, true), .binOp .add 9 (.tmp 109) (.const (.string ⟨#[32, 43, 32]⟩)) 9), (some 111, some (28, true), .move (.tmp 8)), (some 112, some (28, true), .binOp .add 9 (.tmp 110) (.tmp 111) 9), (some 113, some (28, true), .binOp .add 9 (.tmp 112) (.const (.string ⟨#[41, 32, 42, 32]⟩)) 9), (some 114, some (28, true), .move (.tmp 9)), (some 115, some (28, true), .binOp .add 9 (.tmp 113) (.tmp 114) 9), (some 116, some (28, true), .call { callee := .value (.func 17), args := #[.tmp 115], argTypes := #[9] }), (some 117, some (28, true), .call { callee := .builtin .len, args := #[.tmp 116], argTypes := #[22] }), (some 118, some (28, true), .binOp .eql 3 (.tmp 107) (.tmp 117) 3), (some 119, none, .pick (.tmp 106) (.tmp 118) (.const (.bool false))), (some 120, none, .move (.tmp 119)), (some 121, some (42, true), .load 26 (.tmp 13)), (some 122, some (42, true), .load 26 (.tmp 3)), (some 123, some (42, true), .load 26 (.tmp 4)), (some 124, some (42, true), .call { callee := .value (.func 19), args := #[.tmp 122, .tmp 123], argTypes := #[26, 26] }), (some 125, some (42, true), .load 26 (.tmp 5)), (some 126, some (42, true), .call { callee := .value (.func 20), args := #[.tmp 124, .tmp 125], argTypes := #[26, 26] }), (some 127, some (42, true), .call { callee := .value (.func 18), args := #[.tmp 121, .tmp 126], argTypes := #[26, 26] }), (some 128, none, .pick (.tmp 120) (.tmp 127) (.const (.bool false))), (some 129, none, .move (.tmp 128)), (some 130, some (51, true), .move (.tmp 18)), (some 131, some (51, true), .binOp .eql 31 (.tmp 130) (.const (.int .i64 0)) 31), (some 132, none, .pick (.tmp 129) (.tmp 131) (.const (.bool false))), (some 133, none, .move (.tmp 132)), (some 134, some (55, true), .load 26 (.tmp 16)), (some 135, some (55, true), .load 26 (.tmp 3)), (some 136, some (55, true), .load 26 (.tmp 4)), (some 137, some (55, true), .call { callee := .value (.func 21), args := #[.tmp 135, .tmp 136], argTypes := #[26, 26] }), (some 138, some (55, true), .load 26 (.tmp 5)), (some 139, some (55, true), .call { callee := .value (.func 21), args := #[.tmp 137, .tmp 138], argTypes := #[26, 26] }), (some 140, some (55, true), .call { callee := .value (.func 18), args := #[.tmp 134, .tmp 139], argTypes := #[26, 26] }), (some 141, none, .pick (.tmp 133) (.tmp 140) (.const (.bool false))), (some 142, none, .move (.tmp 141)), (some 143, some (64, true), .call { callee := .value (.func 8), args := #[], argTypes := #[] }), (some 144, none, .pick (.tmp 142) (.tmp 143) (.const (.bool false))), (some 6, none, .assign (.tmp 144))]
set_option maxRecDepth 100000 in
theorem vvzRow : (opsAt Tryz.prog 4 7).toList.map row3 = vvzT := by kernel_rfl
theorem vvzSel : Region.noSelect (opsAt Tryz.prog 4 7) = true := by kernel_rfl
theorem vvzDone : Region.ready .any (opsAt Tryz.prog 4 7) (upto (opsAt Tryz.prog 4 7).size (opsAt Tryz.prog 4 7).size []) = [] := by kernel_rfl
theorem vvzstill0 : [(0, [], 0), (1, [], 1), (2, [], 2), (3, [], 3), (4, [], 4), (5, [], 5), (6, [], 6), (7, [], 7), (8, [], 8), (9, [], 9)].all (stillB (opsAt Tryz.prog 4 7)) = true := by kernel_rfl
theorem vvzstill1 : [(10, [], 10), (12, [], 12), (13, [], 13), (14, [], 14), (15, [], 15), (16, [], 16), (17, [], 17), (18, [], 18), (19, [], 19), (23, [], 23)].all (stillB (opsAt Tryz.prog 4 7)) = true := by kernel_rfl
theorem vvzstill2 : [(24, [], 24), (25, [], 25), (26, [], 26), (27, [], 27), (28, [], 28), (29, [], 29), (30, [], 30), (31, [], 31), (32, [], 32), (33, [], 33)].all (stillB (opsAt Tryz.prog 4 7)) = true := by kernel_rfl
theorem vvzstill3 : [(34, [], 34), (35, [], 35), (36, [], 36), (37, [], 37), (39, [], 39), (40, [], 40), (41, [], 41), (42, [], 42), (43, [], 43), (44, [], 44)].all (stillB (opsAt Tryz.prog 4 7)) = true := by kernel_rfl
theorem vvzstill4 : [(45, [], 45), (46, [], 47), (50, [], 50), (51, [], 51), (52, [], 52), (53, [], 53), (54, [], 54), (55, [], 55), (56, [], 56), (57, [], 57)].all (stillB (opsAt Tryz.prog 4 7)) = true := by kernel_rfl
theorem vvzstill5 : [(58, [], 58), (59, [], 60), (63, [], 63), (64, [], 64), (66, [], 66), (67, [], 67)].all (stillB (opsAt Tryz.prog 4 7)) = true := by kernel_rfl
theorem vvzsole0 : [(11, [], 11), (20, [], 20), (21, [], 21), (22, [], 22), (38, [], 38), (46, [47], 46), (48, [], 48), (49, [], 49), (59, [60], 59), (61, [], 61)].all (soleB (opsAt Tryz.prog 4 7)) = true := by kernel_rfl
theorem vvzsole1 : [(62, [], 62), (65, [], 65)].all (soleB (opsAt Tryz.prog 4 7)) = true := by kernel_rfl
theorem vvzR : Reg (opsAt Tryz.prog 4 7) vvzT [(0, [], 0), (1, [], 1), (2, [], 2), (3, [], 3), (4, [], 4), (5, [], 5), (6, [], 6), (7, [], 7), (8, [], 8), (9, [], 9), (10, [], 10), (12, [], 12), (13, [], 13), (14, [], 14), (15, [], 15), (16, [], 16), (17, [], 17), (18, [], 18), (19, [], 19), (23, [], 23), (24, [], 24), (25, [], 25), (26, [], 26), (27, [], 27), (28, [], 28), (29, [], 29), (30, [], 30), (31, [], 31), (32, [], 32), (33, [], 33), (34, [], 34), (35, [], 35), (36, [], 36), (37, [], 37), (39, [], 39), (40, [], 40), (41, [], 41), (42, [], 42), (43, [], 43), (44, [], 44), (45, [], 45), (46, [], 47), (50, [], 50), (51, [], 51), (52, [], 52), (53, [], 53), (54, [], 54), (55, [], 55), (56, [], 56), (57, [], 57), (58, [], 58), (59, [], 60), (63, [], 63), (64, [], 64), (66, [], 66), (67, [], 67)] [(11, [], 11), (20, [], 20), (21, [], 21), (22, [], 22), (38, [], 38), (46, [47], 46), (48, [], 48), (49, [], 49), (59, [60], 59), (61, [], 61), (62, [], 62), (65, [], 65)] := ⟨vvzRow, vvzSel, (all_parts vvzstill0 (all_parts vvzstill1 (all_parts vvzstill2 (all_parts vvzstill3 (all_parts vvzstill4 (all_parts vvzstill5 (fun k h => by cases h))))))), (all_parts vvzsole0 (all_parts vvzsole1 (fun k h => by cases h))), vvzDone⟩
set_option maxHeartbeats 16000000 in
set_option maxRecDepth 100000 in
theorem values_go {w : World} (hok : Ok12 w) {i j l : Int} {s t u : Nat} {A1 A2 A3 : Option Addr} {n1 c1 n2 c2 n3 c3 : Nat} (h1 : Num w w.heap.size A1 n1 c1 i.natAbs) (h2 : Num w w.heap.size A2 n2 c2 j.natAbs) (h3 : Num w w.heap.size A3 n3 c3 l.natAbs) (m1 : n1 ≤ 12) (m2 : n2 ≤ 12) (m3 : n3 ≤ 12) (t1 : s ≤ 60) (t2 : t ≤ 60) (t3 : u ≤ 60) :
    Calls Tryz.prog 4 #[.agg #[.bool (ngB i), .slice A1 n1 c1, .int .i64 (s : Int)], .agg #[.bool (ngB j), .slice A2 n2 c2, .int .i64 (t : Int)], .agg #[.bool (ngB l), .slice A3 n3 c3, .int .i64 (u : Int)]] w (Ret9 w (.bool true)) := by
  have HOK := Lib.hid hok
  have L1 : Hid (longB (ngB i) n1 (dg i.natAbs) (s : Int) = false) := not_long h1 m1 t1
  have L2 : Hid (longB (ngB j) n2 (dg j.natAbs) (t : Int) = false) := not_long h2 m2 t2
  have L3 : Hid (longB (ngB l) n3 (dg l.natAbs) (u : Int) = false) := not_long h3 m3 t3
  have ZI := Sz.of_len (x := i) (s := s) (n := 12) (by have := h1.len; omega)
  have ZJ := Sz.of_len (x := j) (s := t) (n := 12) (by have := h2.len; omega)
  have ZL := Sz.of_len (x := l) (s := u) (n := 12) (by have := h3.len; omega)
  have BM : Hid ((dg (j * l).natAbs).length ≤ 1000) := by show _ ≤ _; have := (ZJ.mul ZL).nine; omega
  have BB : Hid ((dg (addZ i s j t).natAbs).length ≤ 1000) := by show _ ≤ _; have := (ZI.add ZJ).nine; omega
  have BC : Hid ((dg (subZ i s j t).natAbs).length ≤ 1000) := by show _ ≤ _; have := (ZI.sub ZJ).nine; omega
  clear ZI ZJ ZL
  have QA := (vA_worth i j l s t u)
  have QB := (vB_worth i j l s t u)
  have QC := (vC_worth i j l s t u)
  obtain ⟨xm, hxm⟩ : ∃ x : Int, j * l = x := ⟨_, rfl⟩
  rw [hxm] at BM QA
  have HXm := Lib.hid hxm
  obtain ⟨km, hkm⟩ : ∃ x : Nat, t + u = x := ⟨_, rfl⟩
  rw [hkm] at QA
  have HKm := Lib.hid hkm
  obtain ⟨xa, hxa⟩ : ∃ x : Int, addZ i s xm km = x := ⟨_, rfl⟩
  rw [hxa] at QA
  have HXa := Lib.hid hxa
  obtain ⟨ka, hka⟩ : ∃ x : Nat, max s km = x := ⟨_, rfl⟩
  rw [hka] at QA
  have HKa := Lib.hid hka
  obtain ⟨xb1, hxb1⟩ : ∃ x : Int, addZ i s j t = x := ⟨_, rfl⟩
  rw [hxb1] at BB QB
  have HXb1 := Lib.hid hxb1
  obtain ⟨kb1, hkb1⟩ : ∃ x : Nat, max s t = x := ⟨_, rfl⟩
  rw [hkb1] at QB QC
  have HKb1 := Lib.hid hkb1
  obtain ⟨xb, hxb⟩ : ∃ x : Int, xb1 * l = x := ⟨_, rfl⟩
  rw [hxb] at QB
  have HXb := Lib.hid hxb
  obtain ⟨kb, hkb⟩ : ∃ x : Nat, kb1 + u = x := ⟨_, rfl⟩
  rw [hkb] at QB
  have HKb := Lib.hid hkb
  obtain ⟨xc1, hxc1⟩ : ∃ x : Int, subZ i s j t = x := ⟨_, rfl⟩
  rw [hxc1] at BC QC
  have HXc1 := Lib.hid hxc1
  obtain ⟨xc, hxc⟩ : ∃ x : Int, subZ xc1 kb1 l u = x := ⟨_, rfl⟩
  rw [hxc] at QC
  have HXc := Lib.hid hxc
  obtain ⟨kc, hkc⟩ : ∃ x : Nat, max kb1 u = x := ⟨_, rfl⟩
  rw [hkc] at QC
  have HKc := Lib.hid hkc
  have bk : km ≤ 120 ∧ kb1 ≤ 60 := by omega
  have GA := Lib.hid QA
  have GB := Lib.hid QB
  have GC := Lib.hid QC
  clear QA QB QC hxm hkm hxa hka hxb1 hkb1 hxb hkb hxc1 hxc hkc
  have SM0 := Lib.hid (tT_small (i := i) (n := n1) (s := s) (by have := h1.len; omega) m1 t1)
  have SM1 := Lib.hid (tT_small (i := j) (n := n2) (s := t) (by have := h2.len; omega) m2 t2)
  have SM2 := Lib.hid (tT_small (i := l) (n := n3) (s := u) (by have := h3.len; omega) m3 t3)
  have SA1 := Lib.hid (vA_small (i := i) (j := j) (l := l) (s := s) (t := t) (u := u) (n1 := n1) (n2 := n2) (n3 := n3) (by have := h1.len; omega) (by have := h2.len; omega) (by have := h3.len; omega) m1 m2 m3 t1 t2 t3)
  have SB1 := Lib.hid (vB_small (i := i) (j := j) (l := l) (s := s) (t := t) (u := u) (n1 := n1) (n2 := n2) (n3 := n3) (by have := h1.len; omega) (by have := h2.len; omega) (by have := h3.len; omega) m1 m2 m3 t1 t2 t3 (Q := [(3, [85, 83, 68])]) (fun q hq => by rw [List.mem_singleton] at hq; subst hq; show 3 ≤ 180; omega) (by decide))
  have SC1 := Lib.hid (vC_small (i := i) (j := j) (l := l) (s := s) (t := t) (u := u) (n1 := n1) (n2 := n2) (n3 := n3) (by have := h1.len; omega) (by have := h2.len; omega) (by have := h3.len; omega) m1 m2 m3 t1 t2 t3)
  have E := Lib.hid ((((St.start w (l := [(A1, n1, c1, i.natAbs), (A2, n2, c2, j.natAbs), (A3, n3, c3, l.natAbs)]) (by intro q hq; simp at hq; rcases hq with rfl | rfl | rfl; exact h1; exact h2; exact h3)).lay (g := w.heap.size) (x0 := .bool (ngB i)) (x1 := .slice A1 n1 c1) (x2 := .int .i64 (s : Int)) (t := 26) rfl).lay (g := w.heap.size + 1) (x0 := .bool (ngB j)) (x1 := .slice A2 n2 c2) (x2 := .int .i64 (t : Int)) (t := 26) (by simp)).lay (g := w.heap.size + 1 + 1) (x0 := .bool (ngB l)) (x1 := .slice A3 n3 c3) (x2 := .int .i64 (u : Int)) (t := 26) (by simp))
  clear h1 h2 h3 hok
  go_enter Tryz.func4, Tryz.ntmps4
  go_wp2_with fail
  generalize hW : World.alloc (World.alloc (World.alloc w _) _) _ = W0 at E ⊢
  clear hW
  refine (long_is (St.got E (A := A1) (n := n1) (c := c1) (a := (i).natAbs) (by simp)) L1.out).mono ?_; rintro e v1 ⟨rfl, hb⟩
  replace E := Lib.hid (E.out.step hb); clear hb
  obtain ⟨p0, p1, p2, pf0, pf1, pf2, plt⟩ := St.at_ (x0 := .bool (ngB j)) (x1 := .slice A2 n2 c2) (x2 := .int .i64 (t : Int)) (g := w.heap.size + 1) E (by simp)
  go_wp2_with fail
  clear p0 p1 p2 pf0 pf1 pf2 plt
  refine (long_is (St.got E (A := A2) (n := n2) (c := c2) (a := (j).natAbs) (by simp)) L2.out).mono ?_; rintro e v2 ⟨rfl, hb⟩
  replace E := Lib.hid (E.out.step hb); clear hb
  obtain ⟨p0, p1, p2, pf0, pf1, pf2, plt⟩ := St.at_ (x0 := .bool (ngB l)) (x1 := .slice A3 n3 c3) (x2 := .int .i64 (u : Int)) (g := w.heap.size + 1 + 1) E (by simp)
  go_wp2_with fail
  clear p0 p1 p2 pf0 pf1 pf2 plt
  refine (long_is (St.got E (A := A3) (n := n3) (c := c3) (a := (l).natAbs) (by simp)) L3.out).mono ?_; rintro e v3 ⟨rfl, hb⟩
  replace E := Lib.hid (E.out.step hb); clear hb
  go_wp2_with fail
  obtain ⟨T0, hT0⟩ : ∃ T, str (txtD i s) = T := ⟨_, rfl⟩
  have HT0 := Lib.hid hT0
  clear hT0
  obtain ⟨T1, hT1⟩ : ∃ T, str (txtD j t) = T := ⟨_, rfl⟩
  have HT1 := Lib.hid hT1
  clear hT1
  obtain ⟨T2, hT2⟩ : ∃ T, str (txtD l u) = T := ⟨_, rfl⟩
  have HT2 := Lib.hid hT2
  clear hT2
  have S0 := (St.at_ (x0 := .bool (ngB i)) (x1 := .slice A1 n1 c1) (x2 := .int .i64 (s : Int)) (g := w.heap.size) E (by simp)).c0
  have S1 := (St.at_ (x0 := .bool (ngB i)) (x1 := .slice A1 n1 c1) (x2 := .int .i64 (s : Int)) (g := w.heap.size) E (by simp)).c1
  have S2 := (St.at_ (x0 := .bool (ngB i)) (x1 := .slice A1 n1 c1) (x2 := .int .i64 (s : Int)) (g := w.heap.size) E (by simp)).c2
  have S3 := (St.at_ (x0 := .bool (ngB j)) (x1 := .slice A2 n2 c2) (x2 := .int .i64 (t : Int)) (g := w.heap.size + 1) E (by simp)).c0
  have S4 := (St.at_ (x0 := .bool (ngB j)) (x1 := .slice A2 n2 c2) (x2 := .int .i64 (t : Int)) (g := w.heap.size + 1) E (by simp)).c1
  have S5 := (St.at_ (x0 := .bool (ngB j)) (x1 := .slice A2 n2 c2) (x2 := .int .i64 (t : Int)) (g := w.heap.size + 1) E (by simp)).c2
  have S6 := (St.at_ (x0 := .bool (ngB l)) (x1 := .slice A3 n3 c3) (x2 := .int .i64 (u : Int)) (g := w.heap.size + 1 + 1) E (by simp)).c0
  have S7 := (St.at_ (x0 := .bool (ngB l)) (x1 := .slice A3 n3 c3) (x2 := .int .i64 (u : Int)) (g := w.heap.size + 1 + 1) E (by simp)).c1
  have S8 := (St.at_ (x0 := .bool (ngB l)) (x1 := .slice A3 n3 c3) (x2 := .int .i64 (u : Int)) (g := w.heap.size + 1 + 1) E (by simp)).c2
  go_region_held3 (fun v => v.cell? ⟨w.heap.size, 0, none⟩ = some (.bool (ngB i)) ∧ v.cell? ⟨w.heap.size, 1, none⟩ = some (.slice A1 n1 c1) ∧ v.cell? ⟨w.heap.size, 2, none⟩ = some (.int .i64 (s : Int)) ∧ v.cell? ⟨w.heap.size + 1, 0, none⟩ = some (.bool (ngB j)) ∧ v.cell? ⟨w.heap.size + 1, 1, none⟩ = some (.slice A2 n2 c2) ∧ v.cell? ⟨w.heap.size + 1, 2, none⟩ = some (.int .i64 (t : Int)) ∧ v.cell? ⟨w.heap.size + 1 + 1, 0, none⟩ = some (.bool (ngB l)) ∧ v.cell? ⟨w.heap.size + 1 + 1, 1, none⟩ = some (.slice A3 n3 c3) ∧ v.cell? ⟨w.heap.size + 1 + 1, 2, none⟩ = some (.int .i64 (u : Int))) (first | with_reducible exact ⟨(St.at_ (x0 := .bool (ngB i)) (x1 := .slice A1 n1 c1) (x2 := .int .i64 (s : Int)) (g := w.heap.size) E (by simp)).c0, (St.at_ (x0 := .bool (ngB i)) (x1 := .slice A1 n1 c1) (x2 := .int .i64 (s : Int)) (g := w.heap.size) E (by simp)).c1, (St.at_ (x0 := .bool (ngB i)) (x1 := .slice A1 n1 c1) (x2 := .int .i64 (s : Int)) (g := w.heap.size) E (by simp)).c2, (St.at_ (x0 := .bool (ngB j)) (x1 := .slice A2 n2 c2) (x2 := .int .i64 (t : Int)) (g := w.heap.size + 1) E (by simp)).c0, (St.at_ (x0 := .bool (ngB j)) (x1 := .slice A2 n2 c2) (x2 := .int .i64 (t : Int)) (g := w.heap.size + 1) E (by simp)).c1, (St.at_ (x0 := .bool (ngB j)) (x1 := .slice A2 n2 c2) (x2 := .int .i64 (t : Int)) (g := w.heap.size + 1) E (by simp)).c2, (St.at_ (x0 := .bool (ngB l)) (x1 := .slice A3 n3 c3) (x2 := .int .i64 (u : Int)) (g := w.heap.size + 1 + 1) E (by simp)).c0, (St.at_ (x0 := .bool (ngB l)) (x1 := .slice A3 n3 c3) (x2 := .int .i64 (u : Int)) (g := w.heap.size + 1 + 1) E (by simp)).c1, (St.at_ (x0 := .bool (ngB l)) (x1 := .slice A3 n3 c3) (x2 := .int .i64 (u : Int)) (g := w.heap.size + 1 + 1) E (by simp)).c2⟩ | go_keep) (first | (go_at_call_of 16 (ngB i); refine (dtext_is (i := i) (t := s) (St.got E (A := A1) (n := n1) (c := c1) (a := (i).natAbs) (by simp) |>.on (Below.refl _ _).drew) (by omega) (by omega) HT0.out).mono ?_; rintro e w5 ⟨rfl, hb5⟩; replace E := Lib.hid (St.step E.out ((Below.refl _ _).drew.trans hb5)); clear hb5) | (go_at_call_of 16 (ngB i); refine (dtext_is (i := i) (t := s) (St.got E (A := A1) (n := n1) (c := c1) (a := (i).natAbs) (by simp)) (by omega) (by omega) HT0.out).mono ?_; rintro e w5 ⟨rfl, hb5⟩; replace E := Lib.hid (St.step E.out hb5); clear hb5) | (go_at_call_of 16 (ngB j); refine (dtext_is (i := j) (t := t) (St.got E (A := A2) (n := n2) (c := c2) (a := (j).natAbs) (by simp) |>.on (Below.refl _ _).drew) (by omega) (by omega) HT1.out).mono ?_; rintro e w5 ⟨rfl, hb5⟩; replace E := Lib.hid (St.step E.out ((Below.refl _ _).drew.trans hb5)); clear hb5) | (go_at_call_of 16 (ngB j); refine (dtext_is (i := j) (t := t) (St.got E (A := A2) (n := n2) (c := c2) (a := (j).natAbs) (by simp)) (by omega) (by omega) HT1.out).mono ?_; rintro e w5 ⟨rfl, hb5⟩; replace E := Lib.hid (St.step E.out hb5); clear hb5) | (go_at_call_of 16 (ngB l); refine (dtext_is (i := l) (t := u) (St.got E (A := A3) (n := n3) (c := c3) (a := (l).natAbs) (by simp) |>.on (Below.refl _ _).drew) (by omega) (by omega) HT2.out).mono ?_; rintro e w5 ⟨rfl, hb5⟩; replace E := Lib.hid (St.step E.out ((Below.refl _ _).drew.trans hb5)); clear hb5) | (go_at_call_of 16 (ngB l); refine (dtext_is (i := l) (t := u) (St.got E (A := A3) (n := n3) (c := c3) (a := (l).natAbs) (by simp)) (by omega) (by omega) HT2.out).mono ?_; rintro e w5 ⟨rfl, hb5⟩; replace E := Lib.hid (St.step E.out hb5); clear hb5))
  have hB0 : bs9 T0 = txtD i s := by rw [← HT0.out]; exact codes_str (txtD_lt _ _)
  have hl0 := (SM0.out).2.2
  have hB1 : bs9 T1 = txtD j t := by rw [← HT1.out]; exact codes_str (txtD_lt _ _)
  have hl1 := (SM1.out).2.2
  have hB2 : bs9 T2 = txtD l u := by rw [← HT2.out]; exact codes_str (txtD_lt _ _)
  have hl2 := (SM2.out).2.2
  obtain ⟨U1, hU1, hcU1⟩ := cat9 (X := T0) (Y := ⟨#[32, 43, 32]⟩) hB0 (show bs9 ⟨#[32, 43, 32]⟩ = [32, 43, 32] from rfl) (by (try simp only [List.length_append, List.length_cons, List.length_nil]); omega) (by (try simp only [List.length_append, List.length_cons, List.length_nil]); omega)
  obtain ⟨U2, hU2, hcU2⟩ := cat9 (X := U1) (Y := T1) hU1 hB1 (by (try simp only [List.length_append, List.length_cons, List.length_nil]); omega) (by (try simp only [List.length_append, List.length_cons, List.length_nil]); omega)
  obtain ⟨U3, hU3, hcU3⟩ := cat9 (X := U2) (Y := ⟨#[32, 42, 32]⟩) hU2 (show bs9 ⟨#[32, 42, 32]⟩ = [32, 42, 32] from rfl) (by (try simp only [List.length_append, List.length_cons, List.length_nil]); omega) (by (try simp only [List.length_append, List.length_cons, List.length_nil]); omega)
  obtain ⟨U4, hU4, hcU4⟩ := cat9 (X := U3) (Y := T2) hU3 hB2 (by (try simp only [List.length_append, List.length_cons, List.length_nil]); omega) (by (try simp only [List.length_append, List.length_cons, List.length_nil]); omega)
  obtain ⟨P1, hP1, hcP1⟩ := cat9 (X := ⟨#[40]⟩) (Y := T0) (show bs9 ⟨#[40]⟩ = [40] from rfl) hB0 (by (try simp only [List.length_append, List.length_cons, List.length_nil]); omega) (by (try simp only [List.length_append, List.length_cons, List.length_nil]); omega)
  obtain ⟨P2, hP2, hcP2⟩ := cat9 (X := P1) (Y := ⟨#[32, 43, 32]⟩) hP1 (show bs9 ⟨#[32, 43, 32]⟩ = [32, 43, 32] from rfl) (by (try simp only [List.length_append, List.length_cons, List.length_nil]); omega) (by (try simp only [List.length_append, List.length_cons, List.length_nil]); omega)
  obtain ⟨P3, hP3, hcP3⟩ := cat9 (X := P2) (Y := T1) hP2 hB1 (by (try simp only [List.length_append, List.length_cons, List.length_nil]); omega) (by (try simp only [List.length_append, List.length_cons, List.length_nil]); omega)
  obtain ⟨P4, hP4, hcP4⟩ := cat9 (X := P3) (Y := ⟨#[41, 32, 42, 32]⟩) hP3 (show bs9 ⟨#[41, 32, 42, 32]⟩ = [41, 32, 42, 32] from rfl) (by (try simp only [List.length_append, List.length_cons, List.length_nil]); omega) (by (try simp only [List.length_append, List.length_cons, List.length_nil]); omega)
  obtain ⟨P5, hP5, hcP5⟩ := cat9 (X := P4) (Y := T2) hP4 hB2 (by (try simp only [List.length_append, List.length_cons, List.length_nil]); omega) (by (try simp only [List.length_append, List.length_cons, List.length_nil]); omega)
  obtain ⟨P6, hP6, hcP6⟩ := cat9 (X := P5) (Y := ⟨#[32, 85, 83, 68]⟩) hP5 (show bs9 ⟨#[32, 85, 83, 68]⟩ = [32, 85, 83, 68] from rfl) (by (try simp only [List.length_append, List.length_cons, List.length_nil]); omega) (by (try simp only [List.length_append, List.length_cons, List.length_nil]); omega)
  obtain ⟨Q1, hQ1, hcQ1⟩ := cat9 (X := ⟨#[40, 40]⟩) (Y := T0) (show bs9 ⟨#[40, 40]⟩ = [40, 40] from rfl) hB0 (by (try simp only [List.length_append, List.length_cons, List.length_nil]); omega) (by (try simp only [List.length_append, List.length_cons, List.length_nil]); omega)
  obtain ⟨Q2, hQ2, hcQ2⟩ := cat9 (X := Q1) (Y := ⟨#[41, 41, 32, 45, 32]⟩) hQ1 (show bs9 ⟨#[41, 41, 32, 45, 32]⟩ = [41, 41, 32, 45, 32] from rfl) (by (try simp only [List.length_append, List.length_cons, List.length_nil]); omega) (by (try simp only [List.length_append, List.length_cons, List.length_nil]); omega)
  obtain ⟨Q3, hQ3, hcQ3⟩ := cat9 (X := Q2) (Y := T1) hQ2 hB1 (by (try simp only [List.length_append, List.length_cons, List.length_nil]); omega) (by (try simp only [List.length_append, List.length_cons, List.length_nil]); omega)
  obtain ⟨Q4, hQ4, hcQ4⟩ := cat9 (X := Q3) (Y := ⟨#[32, 45, 32]⟩) hQ3 (show bs9 ⟨#[32, 45, 32]⟩ = [32, 45, 32] from rfl) (by (try simp only [List.length_append, List.length_cons, List.length_nil]); omega) (by (try simp only [List.length_append, List.length_cons, List.length_nil]); omega)
  obtain ⟨Q5, hQ5, hcQ5⟩ := cat9 (X := Q4) (Y := T2) hQ4 hB2 (by (try simp only [List.length_append, List.length_cons, List.length_nil]); omega) (by (try simp only [List.length_append, List.length_cons, List.length_nil]); omega)
  have HUa : Hid (U4.size ≤ 1000) := by show _ ≤ _; rw [← bs9_len, hU4]; simp only [List.length_append, List.length_cons, List.length_nil]; omega
  have HWa : Hid (Wds (bs9 U4) (vA i j l s t u)) := by
    show Wds _ _
    have h := wds_mul i j l s t u
    have e : bs9 U4 = txtD i s ++ ([32, 43, 32] ++ (txtD j t ++ ([32, 42, 32] ++ (txtD l u ++ [])))) := by rw [hU4]; simp only [List.append_assoc, List.append_nil]
    rw [e]; exact h
  have HUb : Hid (P5.size ≤ 1000) := by show _ ≤ _; rw [← bs9_len, hP5]; simp only [List.length_append, List.length_cons, List.length_nil]; omega
  have HWb : Hid (Wds (bs9 P5) (vB i j l s t u [])) := by
    show Wds _ _
    have h := wds_par i j l s t u
    have e : bs9 P5 = [40] ++ (txtD i s ++ ([32, 43, 32] ++ (txtD j t ++ ([41, 32, 42, 32] ++ (txtD l u ++ []))))) := by rw [hP5]; simp only [List.append_assoc, List.append_nil]
    rw [e]; exact h
  have HUc : Hid (P6.size ≤ 1000) := by show _ ≤ _; rw [← bs9_len, hP6]; simp only [List.length_append, List.length_cons, List.length_nil]; omega
  have HWc : Hid (Wds (bs9 P6) (vB i j l s t u [(3, [85, 83, 68])])) := by
    show Wds _ _
    have h := wds_paru i j l s t u
    have e : bs9 P6 = [40] ++ (txtD i s ++ ([32, 43, 32] ++ (txtD j t ++ ([41, 32, 42, 32] ++ (txtD l u ++ [32, 85, 83, 68]))))) := by rw [hP6]; simp only [List.append_assoc, List.append_nil]
    rw [e]; exact h
  have HUd : Hid (Q5.size ≤ 1000) := by show _ ≤ _; rw [← bs9_len, hQ5]; simp only [List.length_append, List.length_cons, List.length_nil]; omega
  have HWd : Hid (Wds (bs9 Q5) (vC i j l s t u)) := by
    show Wds _ _
    have h := wds_sub i j l s t u
    have e : bs9 Q5 = [40, 40] ++ (txtD i s ++ ([41, 41, 32, 45, 32] ++ (txtD j t ++ ([32, 45, 32] ++ (txtD l u ++ []))))) := by rw [hQ5]; simp only [List.append_assoc, List.append_nil]
    rw [e]; exact h
  clear hU1 hU2 hU3 hU4 hP1 hP2 hP3 hP4 hP5 hP6 hQ1 hQ2 hQ3 hQ4 hQ5 hB0 hB1 hB2 hl0 hl1 hl2 S0 S1 S2 S3 S4 S5 S6 S7 S8
  obtain ⟨MA, hMA⟩ : ∃ M, (vA i j l s t u).length = M := ⟨_, rfl⟩
  have HMa := Lib.hid hMA
  obtain ⟨ra, hra⟩ : ∃ r, evl ((vA i j l s t u).map tk) 0 = r := ⟨_, rfl⟩
  have HVa := Lib.hid hra
  have PMa : ra.2.2.1 = ((MA : Nat) : Int) := by rw [← hra, GA.out]; exact congrArg _ hMA
  have PEa : ((ra.2.2.2 : Nat) : Int) = 0 := by rw [← hra, GA.out]; rfl
  have KA : Hid (alikeB ra.1 ra.2.1 xa ka = true) := alike_yes (by rw [← hra, GA.out]) (by rw [← hra, GA.out])
  have Ya : Hid (∀ t' ∈ (vA i j l s t u).map tk, t'.2.size ≤ 180) := SA1.out.1
  have Za : MA ≤ 15 := by rw [← hMA]; exact SA1.out.2
  clear hra
  obtain ⟨MB, hMB⟩ : ∃ M, (vB i j l s t u []).length = M := ⟨_, rfl⟩
  have HMb := Lib.hid hMB
  obtain ⟨MC, hMC⟩ : ∃ M, (vB i j l s t u [(3, [85, 83, 68])]).length = M := ⟨_, rfl⟩
  have HMc := Lib.hid hMC
  obtain ⟨rc, hrc⟩ : ∃ r, evl ((vB i j l s t u [(3, [85, 83, 68])]).map tk) 0 = r := ⟨_, rfl⟩
  have HVc := Lib.hid hrc
  have PMc : rc.2.2.1 = ((MB : Nat) : Int) := by rw [← hrc, GB.out]; exact congrArg _ hMB
  have PEc : ((rc.2.2.2 : Nat) : Int) = 0 := by rw [← hrc, GB.out]; rfl
  have KB : Hid (alikeB rc.1 rc.2.1 xb kb = true) := alike_yes (by rw [← hrc, GB.out]) (by rw [← hrc, GB.out])
  have Yc : Hid (∀ t' ∈ (vB i j l s t u [(3, [85, 83, 68])]).map tk, t'.2.size ≤ 180) := SB1.out.1
  have Zc : MC ≤ 15 := by rw [← hMC]; exact SB1.out.2
  clear hrc
  obtain ⟨MD, hMD⟩ : ∃ M, (vC i j l s t u).length = M := ⟨_, rfl⟩
  have HMd := Lib.hid hMD
  obtain ⟨rd, hrd⟩ : ∃ r, evl ((vC i j l s t u).map tk) 0 = r := ⟨_, rfl⟩
  have HVd := Lib.hid hrd
  have PMd : rd.2.2.1 = ((MD : Nat) : Int) := by rw [← hrd, GC.out]; exact congrArg _ hMD
  have PEd : ((rd.2.2.2 : Nat) : Int) = 0 := by rw [← hrd, GC.out]; rfl
  have KC : Hid (alikeB rd.1 rd.2.1 xc kc = true) := alike_yes (by rw [← hrd, GC.out]) (by rw [← hrd, GC.out])
  have Yd : Hid (∀ t' ∈ (vC i j l s t u).map tk, t'.2.size ≤ 180) := SC1.out.1
  have Zd : MD ≤ 15 := by rw [← hMD]; exact SC1.out.2
  clear hrd
  clear hMA hMB hMC hMD
  go_wp2_with fail
  refine (words_us (okw12 HOK.out E.out.bel) HUa.out HWa.out).mono ?_; rintro e vwa ⟨Ba, da, La, rfl, hL, hr, hb⟩
  rw [HMa.out] at hr ⊢
  replace E := Lib.hid (E.out.step hb)
  have Ra := Lib.hid hr
  have HLa := Lib.hid hL
  clear hr hL hb
  go_wp2_with fail
  refine (evlq13 (L := La) 0 Ra.out (Nat.le_refl _) Za (by rw [HLa.out]; exact Ya.out) (okw12 HOK.out E.out.bel)).mono ?_; rintro e wea ⟨Aa, na, ca, rfl, hnum, hb⟩
  rw [HLa.out, HVa.out] at hnum ⊢
  replace E := Lib.hid (E.out.push hb hnum)
  clear hb hnum Ra HLa
  go_wp2_with fail
  replace E := Lib.hid (E.out.lay (g := wea.heap.size) (x0 := .bool (ngB ra.1)) (x1 := .slice Aa na ca) (x2 := .int .i64 (ra.2.1 : Int)) (t := 26) rfl)
  obtain ⟨ga, hga⟩ : ∃ g, wea.heap.size = g := ⟨_, rfl⟩
  rw [hga] at E ⊢
  clear hga
  generalize hV : World.alloc wea _ = Va at E ⊢
  clear hV
  go_wp2_with fail
  refine (words_us (okw12 HOK.out E.out.bel) HUc.out HWc.out).mono ?_; rintro e vwc ⟨Bc, dc, Lc, rfl, hL, hr, hb⟩
  rw [HMc.out] at hr ⊢
  replace E := Lib.hid (E.out.step hb)
  have Rc := Lib.hid hr
  have HLc := Lib.hid hL
  clear hr hL hb
  go_wp2_with fail
  refine (evlq13 (L := Lc) 0 Rc.out (Nat.le_refl _) Zc (by rw [HLc.out]; exact Yc.out) (okw12 HOK.out E.out.bel)).mono ?_; rintro e wec ⟨Ac, nc, cc, rfl, hnum, hb⟩
  rw [HLc.out, HVc.out] at hnum ⊢
  replace E := Lib.hid (E.out.push hb hnum)
  clear hb hnum Rc HLc
  go_wp2_with fail
  replace E := Lib.hid (E.out.lay (g := wec.heap.size) (x0 := .bool (ngB rc.1)) (x1 := .slice Ac nc cc) (x2 := .int .i64 (rc.2.1 : Int)) (t := 26) rfl)
  obtain ⟨gc, hgc⟩ : ∃ g, wec.heap.size = g := ⟨_, rfl⟩
  rw [hgc] at E ⊢
  clear hgc
  generalize hV : World.alloc wec _ = Vc at E ⊢
  clear hV
  go_wp2_with fail
  refine (words_us (okw12 HOK.out E.out.bel) HUd.out HWd.out).mono ?_; rintro e vwd ⟨Bd, dd, Ld, rfl, hL, hr, hb⟩
  rw [HMd.out] at hr ⊢
  replace E := Lib.hid (E.out.step hb)
  have Rd := Lib.hid hr
  have HLd := Lib.hid hL
  clear hr hL hb
  go_wp2_with fail
  refine (evlq13 (L := Ld) 0 Rd.out (Nat.le_refl _) Zd (by rw [HLd.out]; exact Yd.out) (okw12 HOK.out E.out.bel)).mono ?_; rintro e wed ⟨Ad, nd, cd, rfl, hnum, hb⟩
  rw [HLd.out, HVd.out] at hnum ⊢
  replace E := Lib.hid (E.out.push hb hnum)
  clear hb hnum Rd HLd
  go_wp2_with fail
  replace E := Lib.hid (E.out.lay (g := wed.heap.size) (x0 := .bool (ngB rd.1)) (x1 := .slice Ad nd cd) (x2 := .int .i64 (rd.2.1 : Int)) (t := 26) rfl)
  obtain ⟨gd, hgd⟩ : ∃ g, wed.heap.size = g := ⟨_, rfl⟩
  rw [hgd] at E ⊢
  clear hgd
  generalize hV : World.alloc wed _ = Vd at E ⊢
  clear hV
  replace E := Lib.hid E.out.drew
  rename_i K hK
  refine line_start (ops := opsAt Tryz.prog 4 7) (S := fun v : World => v.cell? ⟨w.heap.size, 0, none⟩ = some (.bool (ngB i)) ∧ v.cell? ⟨w.heap.size, 1, none⟩ = some (.slice A1 n1 c1) ∧ v.cell? ⟨w.heap.size, 2, none⟩ = some (.int .i64 (s : Int)) ∧ v.cell? ⟨w.heap.size + 1, 0, none⟩ = some (.bool (ngB j)) ∧ v.cell? ⟨w.heap.size + 1, 1, none⟩ = some (.slice A2 n2 c2) ∧ v.cell? ⟨w.heap.size + 1, 2, none⟩ = some (.int .i64 (t : Int)) ∧ v.cell? ⟨w.heap.size + 1 + 1, 0, none⟩ = some (.bool (ngB l)) ∧ v.cell? ⟨w.heap.size + 1 + 1, 1, none⟩ = some (.slice A3 n3 c3) ∧ v.cell? ⟨w.heap.size + 1 + 1, 2, none⟩ = some (.int .i64 (u : Int)) ∧ v.cell? ⟨ga, 0, none⟩ = some (.bool (ngB ra.1)) ∧ v.cell? ⟨ga, 1, none⟩ = some (.slice Aa na ca) ∧ v.cell? ⟨ga, 2, none⟩ = some (.int .i64 (ra.2.1 : Int)) ∧ v.cell? ⟨gc, 0, none⟩ = some (.bool (ngB rc.1)) ∧ v.cell? ⟨gc, 1, none⟩ = some (.slice Ac nc cc) ∧ v.cell? ⟨gc, 2, none⟩ = some (.int .i64 (rc.2.1 : Int)) ∧ v.cell? ⟨gd, 0, none⟩ = some (.bool (ngB rd.1)) ∧ v.cell? ⟨gd, 1, none⟩ = some (.slice Ad nd cd) ∧ v.cell? ⟨gd, 2, none⟩ = some (.int .i64 (rd.2.1 : Int))) (by kernel_rfl) (by kernel_rfl) (⟨(St.at_ (x0 := .bool (ngB i)) (x1 := .slice A1 n1 c1) (x2 := .int .i64 (s : Int)) (g := w.heap.size) E (by simp)).c0, (St.at_ (x0 := .bool (ngB i)) (x1 := .slice A1 n1 c1) (x2 := .int .i64 (s : Int)) (g := w.heap.size) E (by simp)).c1, (St.at_ (x0 := .bool (ngB i)) (x1 := .slice A1 n1 c1) (x2 := .int .i64 (s : Int)) (g := w.heap.size) E (by simp)).c2, (St.at_ (x0 := .bool (ngB j)) (x1 := .slice A2 n2 c2) (x2 := .int .i64 (t : Int)) (g := w.heap.size + 1) E (by simp)).c0, (St.at_ (x0 := .bool (ngB j)) (x1 := .slice A2 n2 c2) (x2 := .int .i64 (t : Int)) (g := w.heap.size + 1) E (by simp)).c1, (St.at_ (x0 := .bool (ngB j)) (x1 := .slice A2 n2 c2) (x2 := .int .i64 (t : Int)) (g := w.heap.size + 1) E (by simp)).c2, (St.at_ (x0 := .bool (ngB l)) (x1 := .slice A3 n3 c3) (x2 := .int .i64 (u : Int)) (g := w.heap.size + 1 + 1) E (by simp)).c0, (St.at_ (x0 := .bool (ngB l)) (x1 := .slice A3 n3 c3) (x2 := .int .i64 (u : Int)) (g := w.heap.size + 1 + 1) E (by simp)).c1, (St.at_ (x0 := .bool (ngB l)) (x1 := .slice A3 n3 c3) (x2 := .int .i64 (u : Int)) (g := w.heap.size + 1 + 1) E (by simp)).c2, (St.at_ (x0 := .bool (ngB ra.1)) (x1 := .slice Aa na ca) (x2 := .int .i64 (ra.2.1 : Int)) (g := ga) E (by simp)).c0, (St.at_ (x0 := .bool (ngB ra.1)) (x1 := .slice Aa na ca) (x2 := .int .i64 (ra.2.1 : Int)) (g := ga) E (by simp)).c1, (St.at_ (x0 := .bool (ngB ra.1)) (x1 := .slice Aa na ca) (x2 := .int .i64 (ra.2.1 : Int)) (g := ga) E (by simp)).c2, (St.at_ (x0 := .bool (ngB rc.1)) (x1 := .slice Ac nc cc) (x2 := .int .i64 (rc.2.1 : Int)) (g := gc) E (by simp)).c0, (St.at_ (x0 := .bool (ngB rc.1)) (x1 := .slice Ac nc cc) (x2 := .int .i64 (rc.2.1 : Int)) (g := gc) E (by simp)).c1, (St.at_ (x0 := .bool (ngB rc.1)) (x1 := .slice Ac nc cc) (x2 := .int .i64 (rc.2.1 : Int)) (g := gc) E (by simp)).c2, (St.at_ (x0 := .bool (ngB rd.1)) (x1 := .slice Ad nd cd) (x2 := .int .i64 (rd.2.1 : Int)) (g := gd) E (by simp)).c0, (St.at_ (x0 := .bool (ngB rd.1)) (x1 := .slice Ad nd cd) (x2 := .int .i64 (rd.2.1 : Int)) (g := gd) E (by simp)).c1, (St.at_ (x0 := .bool (ngB rd.1)) (x1 := .slice Ad nd cd) (x2 := .int .i64 (rd.2.1 : Int)) (g := gd) E (by simp)).c2⟩) ?_
  have hSw : (fun v : World => v.cell? ⟨w.heap.size, 0, none⟩ = some (.bool (ngB i)) ∧ v.cell? ⟨w.heap.size, 1, none⟩ = some (.slice A1 n1 c1) ∧ v.cell? ⟨w.heap.size, 2, none⟩ = some (.int .i64 (s : Int)) ∧ v.cell? ⟨w.heap.size + 1, 0, none⟩ = some (.bool (ngB j)) ∧ v.cell? ⟨w.heap.size + 1, 1, none⟩ = some (.slice A2 n2 c2) ∧ v.cell? ⟨w.heap.size + 1, 2, none⟩ = some (.int .i64 (t : Int)) ∧ v.cell? ⟨w.heap.size + 1 + 1, 0, none⟩ = some (.bool (ngB l)) ∧ v.cell? ⟨w.heap.size + 1 + 1, 1, none⟩ = some (.slice A3 n3 c3) ∧ v.cell? ⟨w.heap.size + 1 + 1, 2, none⟩ = some (.int .i64 (u : Int)) ∧ v.cell? ⟨ga, 0, none⟩ = some (.bool (ngB ra.1)) ∧ v.cell? ⟨ga, 1, none⟩ = some (.slice Aa na ca) ∧ v.cell? ⟨ga, 2, none⟩ = some (.int .i64 (ra.2.1 : Int)) ∧ v.cell? ⟨gc, 0, none⟩ = some (.bool (ngB rc.1)) ∧ v.cell? ⟨gc, 1, none⟩ = some (.slice Ac nc cc) ∧ v.cell? ⟨gc, 2, none⟩ = some (.int .i64 (rc.2.1 : Int)) ∧ v.cell? ⟨gd, 0, none⟩ = some (.bool (ngB rd.1)) ∧ v.cell? ⟨gd, 1, none⟩ = some (.slice Ad nd cd) ∧ v.cell? ⟨gd, 2, none⟩ = some (.int .i64 (rd.2.1 : Int))) Vd.drew := ⟨(St.at_ (x0 := .bool (ngB i)) (x1 := .slice A1 n1 c1) (x2 := .int .i64 (s : Int)) (g := w.heap.size) E (by simp)).c0, (St.at_ (x0 := .bool (ngB i)) (x1 := .slice A1 n1 c1) (x2 := .int .i64 (s : Int)) (g := w.heap.size) E (by simp)).c1, (St.at_ (x0 := .bool (ngB i)) (x1 := .slice A1 n1 c1) (x2 := .int .i64 (s : Int)) (g := w.heap.size) E (by simp)).c2, (St.at_ (x0 := .bool (ngB j)) (x1 := .slice A2 n2 c2) (x2 := .int .i64 (t : Int)) (g := w.heap.size + 1) E (by simp)).c0, (St.at_ (x0 := .bool (ngB j)) (x1 := .slice A2 n2 c2) (x2 := .int .i64 (t : Int)) (g := w.heap.size + 1) E (by simp)).c1, (St.at_ (x0 := .bool (ngB j)) (x1 := .slice A2 n2 c2) (x2 := .int .i64 (t : Int)) (g := w.heap.size + 1) E (by simp)).c2, (St.at_ (x0 := .bool (ngB l)) (x1 := .slice A3 n3 c3) (x2 := .int .i64 (u : Int)) (g := w.heap.size + 1 + 1) E (by simp)).c0, (St.at_ (x0 := .bool (ngB l)) (x1 := .slice A3 n3 c3) (x2 := .int .i64 (u : Int)) (g := w.heap.size + 1 + 1) E (by simp)).c1, (St.at_ (x0 := .bool (ngB l)) (x1 := .slice A3 n3 c3) (x2 := .int .i64 (u : Int)) (g := w.heap.size + 1 + 1) E (by simp)).c2, (St.at_ (x0 := .bool (ngB ra.1)) (x1 := .slice Aa na ca) (x2 := .int .i64 (ra.2.1 : Int)) (g := ga) E (by simp)).c0, (St.at_ (x0 := .bool (ngB ra.1)) (x1 := .slice Aa na ca) (x2 := .int .i64 (ra.2.1 : Int)) (g := ga) E (by simp)).c1, (St.at_ (x0 := .bool (ngB ra.1)) (x1 := .slice Aa na ca) (x2 := .int .i64 (ra.2.1 : Int)) (g := ga) E (by simp)).c2, (St.at_ (x0 := .bool (ngB rc.1)) (x1 := .slice Ac nc cc) (x2 := .int .i64 (rc.2.1 : Int)) (g := gc) E (by simp)).c0, (St.at_ (x0 := .bool (ngB rc.1)) (x1 := .slice Ac nc cc) (x2 := .int .i64 (rc.2.1 : Int)) (g := gc) E (by simp)).c1, (St.at_ (x0 := .bool (ngB rc.1)) (x1 := .slice Ac nc cc) (x2 := .int .i64 (rc.2.1 : Int)) (g := gc) E (by simp)).c2, (St.at_ (x0 := .bool (ngB rd.1)) (x1 := .slice Ad nd cd) (x2 := .int .i64 (rd.2.1 : Int)) (g := gd) E (by simp)).c0, (St.at_ (x0 := .bool (ngB rd.1)) (x1 := .slice Ad nd cd) (x2 := .int .i64 (rd.2.1 : Int)) (g := gd) E (by simp)).c1, (St.at_ (x0 := .bool (ngB rd.1)) (x1 := .slice Ad nd cd) (x2 := .int .i64 (rd.2.1 : Int)) (g := gd) E (by simp)).c2⟩
  generalize hA : Act.mk _ _ = a
  have ha : Fr 145 a [(3, .pointer (some ⟨w.heap.size, 0, none⟩)), (4, .pointer (some ⟨w.heap.size + 1, 0, none⟩)), (5, .pointer (some ⟨w.heap.size + 1 + 1, 0, none⟩)), (7, .string T0), (8, .string T1), (9, .string T2), (10, .pointer (some ⟨ga, 0, none⟩)), (11, .int .i64 (MA : Int)), (12, .int .i64 0), (13, .pointer (some ⟨gc, 0, none⟩)), (14, .int .i64 (MB : Int)), (15, .int .i64 0), (16, .pointer (some ⟨gd, 0, none⟩)), (18, .int .i64 0)] := by rw [← hA]; exact ⟨rfl, rfl, by intro q hq; simp at hq; rcases hq with rfl | rfl | rfl | rfl | rfl | rfl | rfl | rfl | rfl | rfl | rfl | rfl | rfl | rfl <;> rfl⟩
  clear hA
  refine line_still vvzR 0 0 [] 78 (.int .i64 0) [(3, .pointer (some ⟨w.heap.size, 0, none⟩)), (4, .pointer (some ⟨w.heap.size + 1, 0, none⟩)), (5, .pointer (some ⟨w.heap.size + 1 + 1, 0, none⟩)), (7, .string T0), (8, .string T1), (9, .string T2), (10, .pointer (some ⟨ga, 0, none⟩)), (11, .int .i64 (MA : Int)), (13, .pointer (some ⟨gc, 0, none⟩)), (14, .int .i64 (MB : Int)), (15, .int .i64 0), (16, .pointer (some ⟨gd, 0, none⟩)), (18, .int .i64 0)] rfl (by decide) (by decide) (by decide) ha (fun o ho hg => y_of (wanted_none hg) (fun wx hS => e_move (.inl ho) (ha.ev (i := 12) (v := .int .i64 0) (by simp)))) (by simp) hSw ?_; intro a ha
  refine line_still vvzR 1 1 [] 79 (.bool true) [(3, .pointer (some ⟨w.heap.size, 0, none⟩)), (4, .pointer (some ⟨w.heap.size + 1, 0, none⟩)), (5, .pointer (some ⟨w.heap.size + 1 + 1, 0, none⟩)), (7, .string T0), (8, .string T1), (9, .string T2), (10, .pointer (some ⟨ga, 0, none⟩)), (11, .int .i64 (MA : Int)), (13, .pointer (some ⟨gc, 0, none⟩)), (14, .int .i64 (MB : Int)), (15, .int .i64 0), (16, .pointer (some ⟨gd, 0, none⟩)), (18, .int .i64 0)] rfl (by decide) (by decide) (by decide) ha (fun o ho hg => y_of (wanted_none hg) (fun wx hS => e_eq13 (by decide) ho (ha.ev (i := 78) (v := .int .i64 0) (by simp)) rfl)) (by simp) hSw ?_; intro a ha
  refine line_still vvzR 2 2 [] 80 (.bool true) [(3, .pointer (some ⟨w.heap.size, 0, none⟩)), (4, .pointer (some ⟨w.heap.size + 1, 0, none⟩)), (5, .pointer (some ⟨w.heap.size + 1 + 1, 0, none⟩)), (7, .string T0), (8, .string T1), (9, .string T2), (10, .pointer (some ⟨ga, 0, none⟩)), (11, .int .i64 (MA : Int)), (13, .pointer (some ⟨gc, 0, none⟩)), (14, .int .i64 (MB : Int)), (15, .int .i64 0), (16, .pointer (some ⟨gd, 0, none⟩)), (18, .int .i64 0)] rfl (by decide) (by decide) (by decide) ha (fun o ho hg => y_of (wanted_none hg) (fun wx hS => e_move (.inl ho) (ha.ev (i := 79) (v := .bool true) (by simp)))) (by simp) hSw ?_; intro a ha
  refine line_still vvzR 3 3 [] 81 (.int .i64 (MA : Int)) [(80, .bool true), (3, .pointer (some ⟨w.heap.size, 0, none⟩)), (4, .pointer (some ⟨w.heap.size + 1, 0, none⟩)), (5, .pointer (some ⟨w.heap.size + 1 + 1, 0, none⟩)), (7, .string T0), (8, .string T1), (9, .string T2), (10, .pointer (some ⟨ga, 0, none⟩)), (13, .pointer (some ⟨gc, 0, none⟩)), (14, .int .i64 (MB : Int)), (15, .int .i64 0), (16, .pointer (some ⟨gd, 0, none⟩)), (18, .int .i64 0)] rfl (by decide) (by decide) (by decide) ha (fun o ho hg => y_of (vvzR.wanted hg rfl ha (d := 80) (by simp)) (fun wx hS => e_move (.inl ho) (ha.ev (i := 11) (v := .int .i64 (MA : Int)) (by simp)))) (by simp) hSw ?_; intro a ha
  refine line_still vvzR 4 4 [] 82 (.string T0) [(81, .int .i64 (MA : Int)), (80, .bool true), (3, .pointer (some ⟨w.heap.size, 0, none⟩)), (4, .pointer (some ⟨w.heap.size + 1, 0, none⟩)), (5, .pointer (some ⟨w.heap.size + 1 + 1, 0, none⟩)), (7, .string T0), (8, .string T1), (9, .string T2), (10, .pointer (some ⟨ga, 0, none⟩)), (13, .pointer (some ⟨gc, 0, none⟩)), (14, .int .i64 (MB : Int)), (15, .int .i64 0), (16, .pointer (some ⟨gd, 0, none⟩)), (18, .int .i64 0)] rfl (by decide) (by decide) (by decide) ha (fun o ho hg => y_of (vvzR.wanted hg rfl ha (d := 80) (by simp)) (fun wx hS => e_move (.inl ho) (ha.ev (i := 7) (v := .string T0) (by simp)))) (by simp) hSw ?_; intro a ha
  refine line_still vvzR 5 5 [] 83 (.string U1) [(81, .int .i64 (MA : Int)), (80, .bool true), (3, .pointer (some ⟨w.heap.size, 0, none⟩)), (4, .pointer (some ⟨w.heap.size + 1, 0, none⟩)), (5, .pointer (some ⟨w.heap.size + 1 + 1, 0, none⟩)), (7, .string T0), (8, .string T1), (9, .string T2), (10, .pointer (some ⟨ga, 0, none⟩)), (13, .pointer (some ⟨gc, 0, none⟩)), (14, .int .i64 (MB : Int)), (15, .int .i64 0), (16, .pointer (some ⟨gd, 0, none⟩)), (18, .int .i64 0)] rfl (by decide) (by decide) (by decide) ha (fun o ho hg => y_of (vvzR.wanted hg rfl ha (d := 80) (by simp)) (fun wx hS => e_add13 hcU1 ho (ha.ev (i := 82) (v := .string T0) (by simp)) rfl)) (by simp) hSw ?_; intro a ha
  refine line_still vvzR 6 6 [] 84 (.string T1) [(83, .string U1), (81, .int .i64 (MA : Int)), (80, .bool true), (3, .pointer (some ⟨w.heap.size, 0, none⟩)), (4, .pointer (some ⟨w.heap.size + 1, 0, none⟩)), (5, .pointer (some ⟨w.heap.size + 1 + 1, 0, none⟩)), (7, .string T0), (8, .string T1), (9, .string T2), (10, .pointer (some ⟨ga, 0, none⟩)), (13, .pointer (some ⟨gc, 0, none⟩)), (14, .int .i64 (MB : Int)), (15, .int .i64 0), (16, .pointer (some ⟨gd, 0, none⟩)), (18, .int .i64 0)] rfl (by decide) (by decide) (by decide) ha (fun o ho hg => y_of (vvzR.wanted hg rfl ha (d := 80) (by simp)) (fun wx hS => e_move (.inl ho) (ha.ev (i := 8) (v := .string T1) (by simp)))) (by simp) hSw ?_; intro a ha
  refine line_still vvzR 7 7 [] 85 (.string U2) [(81, .int .i64 (MA : Int)), (80, .bool true), (3, .pointer (some ⟨w.heap.size, 0, none⟩)), (4, .pointer (some ⟨w.heap.size + 1, 0, none⟩)), (5, .pointer (some ⟨w.heap.size + 1 + 1, 0, none⟩)), (7, .string T0), (8, .string T1), (9, .string T2), (10, .pointer (some ⟨ga, 0, none⟩)), (13, .pointer (some ⟨gc, 0, none⟩)), (14, .int .i64 (MB : Int)), (15, .int .i64 0), (16, .pointer (some ⟨gd, 0, none⟩)), (18, .int .i64 0)] rfl (by decide) (by decide) (by decide) ha (fun o ho hg => y_of (vvzR.wanted hg rfl ha (d := 80) (by simp)) (fun wx hS => e_add13 hcU2 ho (ha.ev (i := 83) (v := .string U1) (by simp)) (ha.ev (i := 84) (v := .string T1) (by simp)))) (by simp) hSw ?_; intro a ha
  refine line_still vvzR 8 8 [] 86 (.string U3) [(81, .int .i64 (MA : Int)), (80, .bool true), (3, .pointer (some ⟨w.heap.size, 0, none⟩)), (4, .pointer (some ⟨w.heap.size + 1, 0, none⟩)), (5, .pointer (some ⟨w.heap.size + 1 + 1, 0, none⟩)), (7, .string T0), (8, .string T1), (9, .string T2), (10, .pointer (some ⟨ga, 0, none⟩)), (13, .pointer (some ⟨gc, 0, none⟩)), (14, .int .i64 (MB : Int)), (15, .int .i64 0), (16, .pointer (some ⟨gd, 0, none⟩)), (18, .int .i64 0)] rfl (by decide) (by decide) (by decide) ha (fun o ho hg => y_of (vvzR.wanted hg rfl ha (d := 80) (by simp)) (fun wx hS => e_add13 hcU3 ho (ha.ev (i := 85) (v := .string U2) (by simp)) rfl)) (by simp) hSw ?_; intro a ha
  refine line_still vvzR 9 9 [] 87 (.string T2) [(86, .string U3), (81, .int .i64 (MA : Int)), (80, .bool true), (3, .pointer (some ⟨w.heap.size, 0, none⟩)), (4, .pointer (some ⟨w.heap.size + 1, 0, none⟩)), (5, .pointer (some ⟨w.heap.size + 1 + 1, 0, none⟩)), (7, .string T0), (8, .string T1), (9, .string T2), (10, .pointer (some ⟨ga, 0, none⟩)), (13, .pointer (some ⟨gc, 0, none⟩)), (14, .int .i64 (MB : Int)), (15, .int .i64 0), (16, .pointer (some ⟨gd, 0, none⟩)), (18, .int .i64 0)] rfl (by decide) (by decide) (by decide) ha (fun o ho hg => y_of (vvzR.wanted hg rfl ha (d := 80) (by simp)) (fun wx hS => e_move (.inl ho) (ha.ev (i := 9) (v := .string T2) (by simp)))) (by simp) hSw ?_; intro a ha
  refine line_still vvzR 10 10 [] 88 (.string U4) [(81, .int .i64 (MA : Int)), (80, .bool true), (3, .pointer (some ⟨w.heap.size, 0, none⟩)), (4, .pointer (some ⟨w.heap.size + 1, 0, none⟩)), (5, .pointer (some ⟨w.heap.size + 1 + 1, 0, none⟩)), (7, .string T0), (8, .string T1), (9, .string T2), (10, .pointer (some ⟨ga, 0, none⟩)), (13, .pointer (some ⟨gc, 0, none⟩)), (14, .int .i64 (MB : Int)), (15, .int .i64 0), (16, .pointer (some ⟨gd, 0, none⟩)), (18, .int .i64 0)] rfl (by decide) (by decide) (by decide) ha (fun o ho hg => y_of (vvzR.wanted hg rfl ha (d := 80) (by simp)) (fun wx hS => e_add13 hcU4 ho (ha.ev (i := 86) (v := .string U3) (by simp)) (ha.ev (i := 87) (v := .string T2) (by simp)))) (by simp) hSw ?_; intro a ha
  refine line_call vvzR 11 11 [] 89 (args := #[.string U4]) [(81, .int .i64 (MA : Int)), (80, .bool true), (3, .pointer (some ⟨w.heap.size, 0, none⟩)), (4, .pointer (some ⟨w.heap.size + 1, 0, none⟩)), (5, .pointer (some ⟨w.heap.size + 1 + 1, 0, none⟩)), (7, .string T0), (8, .string T1), (9, .string T2), (10, .pointer (some ⟨ga, 0, none⟩)), (13, .pointer (some ⟨gc, 0, none⟩)), (14, .int .i64 (MB : Int)), (15, .int .i64 0), (16, .pointer (some ⟨gd, 0, none⟩)), (18, .int .i64 0)] rfl (by decide) (by decide) (by decide) ha (fun o ho hg => ⟨(vvzR.wanted hg rfl ha (d := 80) (by simp)), e_call13 (by kernel_rfl) ho rfl (by have q0 := ha.ev (i := 88) (v := .string U4) (by simp); simp only [List.map_toArray, List.map_cons, List.map_nil, ev_const, q0])⟩) (by simp) ?_
  refine (words_usM (okw12 HOK.out E.out.bel) HUa.out HWa.out HMa.out).mono ?_; rintro e y1 ⟨By1, dy1, rfl, hb⟩
  replace E := Lib.hid (E.out.step hb)
  clear hb
  have hSw : (fun v : World => v.cell? ⟨w.heap.size, 0, none⟩ = some (.bool (ngB i)) ∧ v.cell? ⟨w.heap.size, 1, none⟩ = some (.slice A1 n1 c1) ∧ v.cell? ⟨w.heap.size, 2, none⟩ = some (.int .i64 (s : Int)) ∧ v.cell? ⟨w.heap.size + 1, 0, none⟩ = some (.bool (ngB j)) ∧ v.cell? ⟨w.heap.size + 1, 1, none⟩ = some (.slice A2 n2 c2) ∧ v.cell? ⟨w.heap.size + 1, 2, none⟩ = some (.int .i64 (t : Int)) ∧ v.cell? ⟨w.heap.size + 1 + 1, 0, none⟩ = some (.bool (ngB l)) ∧ v.cell? ⟨w.heap.size + 1 + 1, 1, none⟩ = some (.slice A3 n3 c3) ∧ v.cell? ⟨w.heap.size + 1 + 1, 2, none⟩ = some (.int .i64 (u : Int)) ∧ v.cell? ⟨ga, 0, none⟩ = some (.bool (ngB ra.1)) ∧ v.cell? ⟨ga, 1, none⟩ = some (.slice Aa na ca) ∧ v.cell? ⟨ga, 2, none⟩ = some (.int .i64 (ra.2.1 : Int)) ∧ v.cell? ⟨gc, 0, none⟩ = some (.bool (ngB rc.1)) ∧ v.cell? ⟨gc, 1, none⟩ = some (.slice Ac nc cc) ∧ v.cell? ⟨gc, 2, none⟩ = some (.int .i64 (rc.2.1 : Int)) ∧ v.cell? ⟨gd, 0, none⟩ = some (.bool (ngB rd.1)) ∧ v.cell? ⟨gd, 1, none⟩ = some (.slice Ad nd cd) ∧ v.cell? ⟨gd, 2, none⟩ = some (.int .i64 (rd.2.1 : Int))) y1 := ⟨(St.at_ (x0 := .bool (ngB i)) (x1 := .slice A1 n1 c1) (x2 := .int .i64 (s : Int)) (g := w.heap.size) E (by simp)).c0, (St.at_ (x0 := .bool (ngB i)) (x1 := .slice A1 n1 c1) (x2 := .int .i64 (s : Int)) (g := w.heap.size) E (by simp)).c1, (St.at_ (x0 := .bool (ngB i)) (x1 := .slice A1 n1 c1) (x2 := .int .i64 (s : Int)) (g := w.heap.size) E (by simp)).c2, (St.at_ (x0 := .bool (ngB j)) (x1 := .slice A2 n2 c2) (x2 := .int .i64 (t : Int)) (g := w.heap.size + 1) E (by simp)).c0, (St.at_ (x0 := .bool (ngB j)) (x1 := .slice A2 n2 c2) (x2 := .int .i64 (t : Int)) (g := w.heap.size + 1) E (by simp)).c1, (St.at_ (x0 := .bool (ngB j)) (x1 := .slice A2 n2 c2) (x2 := .int .i64 (t : Int)) (g := w.heap.size + 1) E (by simp)).c2, (St.at_ (x0 := .bool (ngB l)) (x1 := .slice A3 n3 c3) (x2 := .int .i64 (u : Int)) (g := w.heap.size + 1 + 1) E (by simp)).c0, (St.at_ (x0 := .bool (ngB l)) (x1 := .slice A3 n3 c3) (x2 := .int .i64 (u : Int)) (g := w.heap.size + 1 + 1) E (by simp)).c1, (St.at_ (x0 := .bool (ngB l)) (x1 := .slice A3 n3 c3) (x2 := .int .i64 (u : Int)) (g := w.heap.size + 1 + 1) E (by simp)).c2, (St.at_ (x0 := .bool (ngB ra.1)) (x1 := .slice Aa na ca) (x2 := .int .i64 (ra.2.1 : Int)) (g := ga) E (by simp)).c0, (St.at_ (x0 := .bool (ngB ra.1)) (x1 := .slice Aa na ca) (x2 := .int .i64 (ra.2.1 : Int)) (g := ga) E (by simp)).c1, (St.at_ (x0 := .bool (ngB ra.1)) (x1 := .slice Aa na ca) (x2 := .int .i64 (ra.2.1 : Int)) (g := ga) E (by simp)).c2, (St.at_ (x0 := .bool (ngB rc.1)) (x1 := .slice Ac nc cc) (x2 := .int .i64 (rc.2.1 : Int)) (g := gc) E (by simp)).c0, (St.at_ (x0 := .bool (ngB rc.1)) (x1 := .slice Ac nc cc) (x2 := .int .i64 (rc.2.1 : Int)) (g := gc) E (by simp)).c1, (St.at_ (x0 := .bool (ngB rc.1)) (x1 := .slice Ac nc cc) (x2 := .int .i64 (rc.2.1 : Int)) (g := gc) E (by simp)).c2, (St.at_ (x0 := .bool (ngB rd.1)) (x1 := .slice Ad nd cd) (x2 := .int .i64 (rd.2.1 : Int)) (g := gd) E (by simp)).c0, (St.at_ (x0 := .bool (ngB rd.1)) (x1 := .slice Ad nd cd) (x2 := .int .i64 (rd.2.1 : Int)) (g := gd) E (by simp)).c1, (St.at_ (x0 := .bool (ngB rd.1)) (x1 := .slice Ad nd cd) (x2 := .int .i64 (rd.2.1 : Int)) (g := gd) E (by simp)).c2⟩
  refine ⟨_, rfl, hSw, ?_⟩; intro a ha
  refine line_still vvzR 12 12 [] 90 (.int .i64 (MA : Int)) [(81, .int .i64 (MA : Int)), (80, .bool true), (3, .pointer (some ⟨w.heap.size, 0, none⟩)), (4, .pointer (some ⟨w.heap.size + 1, 0, none⟩)), (5, .pointer (some ⟨w.heap.size + 1 + 1, 0, none⟩)), (7, .string T0), (8, .string T1), (9, .string T2), (10, .pointer (some ⟨ga, 0, none⟩)), (13, .pointer (some ⟨gc, 0, none⟩)), (14, .int .i64 (MB : Int)), (15, .int .i64 0), (16, .pointer (some ⟨gd, 0, none⟩)), (18, .int .i64 0)] rfl (by decide) (by decide) (by decide) ha (fun o ho hg => y_of (vvzR.wanted hg rfl ha (d := 80) (by simp)) (fun wx hS => e_len13 ho (ha.ev (i := 89) (v := .slice By1 MA dy1) (by simp)))) (by simp) hSw ?_; intro a ha
  refine line_still vvzR 13 13 [] 91 (.bool true) [(80, .bool true), (3, .pointer (some ⟨w.heap.size, 0, none⟩)), (4, .pointer (some ⟨w.heap.size + 1, 0, none⟩)), (5, .pointer (some ⟨w.heap.size + 1 + 1, 0, none⟩)), (7, .string T0), (8, .string T1), (9, .string T2), (10, .pointer (some ⟨ga, 0, none⟩)), (13, .pointer (some ⟨gc, 0, none⟩)), (14, .int .i64 (MB : Int)), (15, .int .i64 0), (16, .pointer (some ⟨gd, 0, none⟩)), (18, .int .i64 0)] rfl (by decide) (by decide) (by decide) ha (fun o ho hg => y_of (vvzR.wanted hg rfl ha (d := 80) (by simp)) (fun wx hS => e_eq13 (by simp) ho (ha.ev (i := 81) (v := .int .i64 (MA : Int)) (by simp)) (ha.ev (i := 90) (v := .int .i64 (MA : Int)) (by simp)))) (by simp) hSw ?_; intro a ha
  refine line_still vvzR 14 14 [] 92 (.bool true) [(3, .pointer (some ⟨w.heap.size, 0, none⟩)), (4, .pointer (some ⟨w.heap.size + 1, 0, none⟩)), (5, .pointer (some ⟨w.heap.size + 1 + 1, 0, none⟩)), (7, .string T0), (8, .string T1), (9, .string T2), (10, .pointer (some ⟨ga, 0, none⟩)), (13, .pointer (some ⟨gc, 0, none⟩)), (14, .int .i64 (MB : Int)), (15, .int .i64 0), (16, .pointer (some ⟨gd, 0, none⟩)), (18, .int .i64 0)] rfl (by decide) (by decide) (by decide) ha (fun o ho hg => y_of (wanted_none hg) (fun wx hS => e_pick ho (ha.ev (i := 80) (v := .bool true) (by simp)) (ha.ev (i := 91) (v := .bool true) (by simp)) rfl)) (by simp) hSw ?_; intro a ha
  refine line_still vvzR 15 15 [] 93 (.bool true) [(3, .pointer (some ⟨w.heap.size, 0, none⟩)), (4, .pointer (some ⟨w.heap.size + 1, 0, none⟩)), (5, .pointer (some ⟨w.heap.size + 1 + 1, 0, none⟩)), (7, .string T0), (8, .string T1), (9, .string T2), (10, .pointer (some ⟨ga, 0, none⟩)), (13, .pointer (some ⟨gc, 0, none⟩)), (14, .int .i64 (MB : Int)), (15, .int .i64 0), (16, .pointer (some ⟨gd, 0, none⟩)), (18, .int .i64 0)] rfl (by decide) (by decide) (by decide) ha (fun o ho hg => y_of (wanted_none hg) (fun wx hS => e_move (.inl ho) (ha.ev (i := 92) (v := .bool true) (by simp)))) (by simp) hSw ?_; intro a ha
  refine line_still vvzR 16 16 [] 94 (.agg #[.bool (ngB ra.1), .slice Aa na ca, .int .i64 (ra.2.1 : Int)]) [(93, .bool true), (3, .pointer (some ⟨w.heap.size, 0, none⟩)), (4, .pointer (some ⟨w.heap.size + 1, 0, none⟩)), (5, .pointer (some ⟨w.heap.size + 1 + 1, 0, none⟩)), (7, .string T0), (8, .string T1), (9, .string T2), (13, .pointer (some ⟨gc, 0, none⟩)), (14, .int .i64 (MB : Int)), (15, .int .i64 0), (16, .pointer (some ⟨gd, 0, none⟩)), (18, .int .i64 0)] rfl (by decide) (by decide) (by decide) ha (fun o ho hg => y_of (vvzR.wanted hg rfl ha (d := 93) (by simp)) (fun wx hS => e_loadD13 ho (ha.ev (i := 10) (v := .pointer (some ⟨ga, 0, none⟩)) (by simp)) (hS.2.2.2.2.2.2.2.2.2.1) (hS.2.2.2.2.2.2.2.2.2.2.1) (hS.2.2.2.2.2.2.2.2.2.2.2.1))) (by simp) hSw ?_; intro a ha
  refine line_still vvzR 17 17 [] 95 (.agg #[.bool (ngB i), .slice A1 n1 c1, .int .i64 (s : Int)]) [(94, .agg #[.bool (ngB ra.1), .slice Aa na ca, .int .i64 (ra.2.1 : Int)]), (93, .bool true), (3, .pointer (some ⟨w.heap.size, 0, none⟩)), (4, .pointer (some ⟨w.heap.size + 1, 0, none⟩)), (5, .pointer (some ⟨w.heap.size + 1 + 1, 0, none⟩)), (7, .string T0), (8, .string T1), (9, .string T2), (13, .pointer (some ⟨gc, 0, none⟩)), (14, .int .i64 (MB : Int)), (15, .int .i64 0), (16, .pointer (some ⟨gd, 0, none⟩)), (18, .int .i64 0)] rfl (by decide) (by decide) (by decide) ha (fun o ho hg => y_of (vvzR.wanted hg rfl ha (d := 93) (by simp)) (fun wx hS => e_loadD13 ho (ha.ev (i := 3) (v := .pointer (some ⟨w.heap.size, 0, none⟩)) (by simp)) (hS.1) (hS.2.1) (hS.2.2.1))) (by simp) hSw ?_; intro a ha
  refine line_still vvzR 18 18 [] 96 (.agg #[.bool (ngB j), .slice A2 n2 c2, .int .i64 (t : Int)]) [(95, .agg #[.bool (ngB i), .slice A1 n1 c1, .int .i64 (s : Int)]), (94, .agg #[.bool (ngB ra.1), .slice Aa na ca, .int .i64 (ra.2.1 : Int)]), (93, .bool true), (3, .pointer (some ⟨w.heap.size, 0, none⟩)), (4, .pointer (some ⟨w.heap.size + 1, 0, none⟩)), (5, .pointer (some ⟨w.heap.size + 1 + 1, 0, none⟩)), (7, .string T0), (8, .string T1), (9, .string T2), (13, .pointer (some ⟨gc, 0, none⟩)), (14, .int .i64 (MB : Int)), (15, .int .i64 0), (16, .pointer (some ⟨gd, 0, none⟩)), (18, .int .i64 0)] rfl (by decide) (by decide) (by decide) ha (fun o ho hg => y_of (vvzR.wanted hg rfl ha (d := 93) (by simp)) (fun wx hS => e_loadD13 ho (ha.ev (i := 4) (v := .pointer (some ⟨w.heap.size + 1, 0, none⟩)) (by simp)) (hS.2.2.2.1) (hS.2.2.2.2.1) (hS.2.2.2.2.2.1))) (by simp) hSw ?_; intro a ha
  refine line_still vvzR 19 19 [] 97 (.agg #[.bool (ngB l), .slice A3 n3 c3, .int .i64 (u : Int)]) [(96, .agg #[.bool (ngB j), .slice A2 n2 c2, .int .i64 (t : Int)]), (95, .agg #[.bool (ngB i), .slice A1 n1 c1, .int .i64 (s : Int)]), (94, .agg #[.bool (ngB ra.1), .slice Aa na ca, .int .i64 (ra.2.1 : Int)]), (93, .bool true), (3, .pointer (some ⟨w.heap.size, 0, none⟩)), (4, .pointer (some ⟨w.heap.size + 1, 0, none⟩)), (5, .pointer (some ⟨w.heap.size + 1 + 1, 0, none⟩)), (7, .string T0), (8, .string T1), (9, .string T2), (13, .pointer (some ⟨gc, 0, none⟩)), (14, .int .i64 (MB : Int)), (15, .int .i64 0), (16, .pointer (some ⟨gd, 0, none⟩)), (18, .int .i64 0)] rfl (by decide) (by decide) (by decide) ha (fun o ho hg => y_of (vvzR.wanted hg rfl ha (d := 93) (by simp)) (fun wx hS => e_loadD13 ho (ha.ev (i := 5) (v := .pointer (some ⟨w.heap.size + 1 + 1, 0, none⟩)) (by simp)) (hS.2.2.2.2.2.2.1) (hS.2.2.2.2.2.2.2.1) (hS.2.2.2.2.2.2.2.2.1))) (by simp) hSw ?_; intro a ha
  refine line_call vvzR 20 20 [] 98 (args := #[.agg #[.bool (ngB j), .slice A2 n2 c2, .int .i64 (t : Int)], .agg #[.bool (ngB l), .slice A3 n3 c3, .int .i64 (u : Int)]]) [(95, .agg #[.bool (ngB i), .slice A1 n1 c1, .int .i64 (s : Int)]), (94, .agg #[.bool (ngB ra.1), .slice Aa na ca, .int .i64 (ra.2.1 : Int)]), (93, .bool true), (3, .pointer (some ⟨w.heap.size, 0, none⟩)), (4, .pointer (some ⟨w.heap.size + 1, 0, none⟩)), (5, .pointer (some ⟨w.heap.size + 1 + 1, 0, none⟩)), (7, .string T0), (8, .string T1), (9, .string T2), (13, .pointer (some ⟨gc, 0, none⟩)), (14, .int .i64 (MB : Int)), (15, .int .i64 0), (16, .pointer (some ⟨gd, 0, none⟩)), (18, .int .i64 0)] rfl (by decide) (by decide) (by decide) ha (fun o ho hg => ⟨(vvzR.wanted hg rfl ha (d := 93) (by simp)), e_call13 (by kernel_rfl) ho rfl (by have q0 := ha.ev (i := 96) (v := .agg #[.bool (ngB j), .slice A2 n2 c2, .int .i64 (t : Int)]) (by simp); have q1 := ha.ev (i := 97) (v := .agg #[.bool (ngB l), .slice A3 n3 c3, .int .i64 (u : Int)]) (by simp); simp only [List.map_toArray, List.map_cons, List.map_nil, ev_const, q0, q1])⟩) (by simp) ?_
  refine (mul_is5 (i := j) (j := l) (s := t) (t := u) (St.got E (A := A2) (n := n2) (c := c2) (a := (j).natAbs) (by simp)) (St.got E (A := A3) (n := n3) (c := c3) (a := (l).natAbs) (by simp)) (by omega) (by omega) (by omega) (by omega) HKm.out HXm.out).mono ?_; rintro e y2 ⟨Am, nm, cm, rfl, hnum, hb⟩
  have hnnm : nm ≤ 1000 := by have h5 := hnum.len; have h6 := BM.out; omega
  replace E := Lib.hid (E.out.push hb hnum)
  clear hb hnum
  have hSw : (fun v : World => v.cell? ⟨w.heap.size, 0, none⟩ = some (.bool (ngB i)) ∧ v.cell? ⟨w.heap.size, 1, none⟩ = some (.slice A1 n1 c1) ∧ v.cell? ⟨w.heap.size, 2, none⟩ = some (.int .i64 (s : Int)) ∧ v.cell? ⟨w.heap.size + 1, 0, none⟩ = some (.bool (ngB j)) ∧ v.cell? ⟨w.heap.size + 1, 1, none⟩ = some (.slice A2 n2 c2) ∧ v.cell? ⟨w.heap.size + 1, 2, none⟩ = some (.int .i64 (t : Int)) ∧ v.cell? ⟨w.heap.size + 1 + 1, 0, none⟩ = some (.bool (ngB l)) ∧ v.cell? ⟨w.heap.size + 1 + 1, 1, none⟩ = some (.slice A3 n3 c3) ∧ v.cell? ⟨w.heap.size + 1 + 1, 2, none⟩ = some (.int .i64 (u : Int)) ∧ v.cell? ⟨ga, 0, none⟩ = some (.bool (ngB ra.1)) ∧ v.cell? ⟨ga, 1, none⟩ = some (.slice Aa na ca) ∧ v.cell? ⟨ga, 2, none⟩ = some (.int .i64 (ra.2.1 : Int)) ∧ v.cell? ⟨gc, 0, none⟩ = some (.bool (ngB rc.1)) ∧ v.cell? ⟨gc, 1, none⟩ = some (.slice Ac nc cc) ∧ v.cell? ⟨gc, 2, none⟩ = some (.int .i64 (rc.2.1 : Int)) ∧ v.cell? ⟨gd, 0, none⟩ = some (.bool (ngB rd.1)) ∧ v.cell? ⟨gd, 1, none⟩ = some (.slice Ad nd cd) ∧ v.cell? ⟨gd, 2, none⟩ = some (.int .i64 (rd.2.1 : Int))) y2 := ⟨(St.at_ (x0 := .bool (ngB i)) (x1 := .slice A1 n1 c1) (x2 := .int .i64 (s : Int)) (g := w.heap.size) E (by simp)).c0, (St.at_ (x0 := .bool (ngB i)) (x1 := .slice A1 n1 c1) (x2 := .int .i64 (s : Int)) (g := w.heap.size) E (by simp)).c1, (St.at_ (x0 := .bool (ngB i)) (x1 := .slice A1 n1 c1) (x2 := .int .i64 (s : Int)) (g := w.heap.size) E (by simp)).c2, (St.at_ (x0 := .bool (ngB j)) (x1 := .slice A2 n2 c2) (x2 := .int .i64 (t : Int)) (g := w.heap.size + 1) E (by simp)).c0, (St.at_ (x0 := .bool (ngB j)) (x1 := .slice A2 n2 c2) (x2 := .int .i64 (t : Int)) (g := w.heap.size + 1) E (by simp)).c1, (St.at_ (x0 := .bool (ngB j)) (x1 := .slice A2 n2 c2) (x2 := .int .i64 (t : Int)) (g := w.heap.size + 1) E (by simp)).c2, (St.at_ (x0 := .bool (ngB l)) (x1 := .slice A3 n3 c3) (x2 := .int .i64 (u : Int)) (g := w.heap.size + 1 + 1) E (by simp)).c0, (St.at_ (x0 := .bool (ngB l)) (x1 := .slice A3 n3 c3) (x2 := .int .i64 (u : Int)) (g := w.heap.size + 1 + 1) E (by simp)).c1, (St.at_ (x0 := .bool (ngB l)) (x1 := .slice A3 n3 c3) (x2 := .int .i64 (u : Int)) (g := w.heap.size + 1 + 1) E (by simp)).c2, (St.at_ (x0 := .bool (ngB ra.1)) (x1 := .slice Aa na ca) (x2 := .int .i64 (ra.2.1 : Int)) (g := ga) E (by simp)).c0, (St.at_ (x0 := .bool (ngB ra.1)) (x1 := .slice Aa na ca) (x2 := .int .i64 (ra.2.1 : Int)) (g := ga) E (by simp)).c1, (St.at_ (x0 := .bool (ngB ra.1)) (x1 := .slice Aa na ca) (x2 := .int .i64 (ra.2.1 : Int)) (g := ga) E (by simp)).c2, (St.at_ (x0 := .bool (ngB rc.1)) (x1 := .slice Ac nc cc) (x2 := .int .i64 (rc.2.1 : Int)) (g := gc) E (by simp)).c0, (St.at_ (x0 := .bool (ngB rc.1)) (x1 := .slice Ac nc cc) (x2 := .int .i64 (rc.2.1 : Int)) (g := gc) E (by simp)).c1, (St.at_ (x0 := .bool (ngB rc.1)) (x1 := .slice Ac nc cc) (x2 := .int .i64 (rc.2.1 : Int)) (g := gc) E (by simp)).c2, (St.at_ (x0 := .bool (ngB rd.1)) (x1 := .slice Ad nd cd) (x2 := .int .i64 (rd.2.1 : Int)) (g := gd) E (by simp)).c0, (St.at_ (x0 := .bool (ngB rd.1)) (x1 := .slice Ad nd cd) (x2 := .int .i64 (rd.2.1 : Int)) (g := gd) E (by simp)).c1, (St.at_ (x0 := .bool (ngB rd.1)) (x1 := .slice Ad nd cd) (x2 := .int .i64 (rd.2.1 : Int)) (g := gd) E (by simp)).c2⟩
  refine ⟨_, rfl, hSw, ?_⟩; intro a ha
  refine line_call vvzR 21 21 [] 99 (args := #[.agg #[.bool (ngB i), .slice A1 n1 c1, .int .i64 (s : Int)], .agg #[.bool (ngB xm), .slice Am nm cm, .int .i64 (km : Int)]]) [(94, .agg #[.bool (ngB ra.1), .slice Aa na ca, .int .i64 (ra.2.1 : Int)]), (93, .bool true), (3, .pointer (some ⟨w.heap.size, 0, none⟩)), (4, .pointer (some ⟨w.heap.size + 1, 0, none⟩)), (5, .pointer (some ⟨w.heap.size + 1 + 1, 0, none⟩)), (7, .string T0), (8, .string T1), (9, .string T2), (13, .pointer (some ⟨gc, 0, none⟩)), (14, .int .i64 (MB : Int)), (15, .int .i64 0), (16, .pointer (some ⟨gd, 0, none⟩)), (18, .int .i64 0)] rfl (by decide) (by decide) (by decide) ha (fun o ho hg => ⟨(vvzR.wanted hg rfl ha (d := 93) (by simp)), e_call13 (by kernel_rfl) ho rfl (by have q0 := ha.ev (i := 95) (v := .agg #[.bool (ngB i), .slice A1 n1 c1, .int .i64 (s : Int)]) (by simp); have q1 := ha.ev (i := 98) (v := .agg #[.bool (ngB xm), .slice Am nm cm, .int .i64 (km : Int)]) (by simp); simp only [List.map_toArray, List.map_cons, List.map_nil, ev_const, q0, q1])⟩) (by simp) ?_
  refine (add_is5 (i := i) (j := xm) (s := s) (t := km) (St.got E (A := A1) (n := n1) (c := c1) (a := (i).natAbs) (by simp)) (St.got E (A := Am) (n := nm) (c := cm) (a := (xm).natAbs) (by simp)) (by omega) (by omega) (by omega) (by omega) HKa.out HXa.out).mono ?_; rintro e y3 ⟨Ae, ne, ce, rfl, hnum, hb⟩
  replace E := Lib.hid (E.out.push hb hnum)
  clear hb hnum
  have hSw : (fun v : World => v.cell? ⟨w.heap.size, 0, none⟩ = some (.bool (ngB i)) ∧ v.cell? ⟨w.heap.size, 1, none⟩ = some (.slice A1 n1 c1) ∧ v.cell? ⟨w.heap.size, 2, none⟩ = some (.int .i64 (s : Int)) ∧ v.cell? ⟨w.heap.size + 1, 0, none⟩ = some (.bool (ngB j)) ∧ v.cell? ⟨w.heap.size + 1, 1, none⟩ = some (.slice A2 n2 c2) ∧ v.cell? ⟨w.heap.size + 1, 2, none⟩ = some (.int .i64 (t : Int)) ∧ v.cell? ⟨w.heap.size + 1 + 1, 0, none⟩ = some (.bool (ngB l)) ∧ v.cell? ⟨w.heap.size + 1 + 1, 1, none⟩ = some (.slice A3 n3 c3) ∧ v.cell? ⟨w.heap.size + 1 + 1, 2, none⟩ = some (.int .i64 (u : Int)) ∧ v.cell? ⟨ga, 0, none⟩ = some (.bool (ngB ra.1)) ∧ v.cell? ⟨ga, 1, none⟩ = some (.slice Aa na ca) ∧ v.cell? ⟨ga, 2, none⟩ = some (.int .i64 (ra.2.1 : Int)) ∧ v.cell? ⟨gc, 0, none⟩ = some (.bool (ngB rc.1)) ∧ v.cell? ⟨gc, 1, none⟩ = some (.slice Ac nc cc) ∧ v.cell? ⟨gc, 2, none⟩ = some (.int .i64 (rc.2.1 : Int)) ∧ v.cell? ⟨gd, 0, none⟩ = some (.bool (ngB rd.1)) ∧ v.cell? ⟨gd, 1, none⟩ = some (.slice Ad nd cd) ∧ v.cell? ⟨gd, 2, none⟩ = some (.int .i64 (rd.2.1 : Int))) y3 := ⟨(St.at_ (x0 := .bool (ngB i)) (x1 := .slice A1 n1 c1) (x2 := .int .i64 (s : Int)) (g := w.heap.size) E (by simp)).c0, (St.at_ (x0 := .bool (ngB i)) (x1 := .slice A1 n1 c1) (x2 := .int .i64 (s : Int)) (g := w.heap.size) E (by simp)).c1, (St.at_ (x0 := .bool (ngB i)) (x1 := .slice A1 n1 c1) (x2 := .int .i64 (s : Int)) (g := w.heap.size) E (by simp)).c2, (St.at_ (x0 := .bool (ngB j)) (x1 := .slice A2 n2 c2) (x2 := .int .i64 (t : Int)) (g := w.heap.size + 1) E (by simp)).c0, (St.at_ (x0 := .bool (ngB j)) (x1 := .slice A2 n2 c2) (x2 := .int .i64 (t : Int)) (g := w.heap.size + 1) E (by simp)).c1, (St.at_ (x0 := .bool (ngB j)) (x1 := .slice A2 n2 c2) (x2 := .int .i64 (t : Int)) (g := w.heap.size + 1) E (by simp)).c2, (St.at_ (x0 := .bool (ngB l)) (x1 := .slice A3 n3 c3) (x2 := .int .i64 (u : Int)) (g := w.heap.size + 1 + 1) E (by simp)).c0, (St.at_ (x0 := .bool (ngB l)) (x1 := .slice A3 n3 c3) (x2 := .int .i64 (u : Int)) (g := w.heap.size + 1 + 1) E (by simp)).c1, (St.at_ (x0 := .bool (ngB l)) (x1 := .slice A3 n3 c3) (x2 := .int .i64 (u : Int)) (g := w.heap.size + 1 + 1) E (by simp)).c2, (St.at_ (x0 := .bool (ngB ra.1)) (x1 := .slice Aa na ca) (x2 := .int .i64 (ra.2.1 : Int)) (g := ga) E (by simp)).c0, (St.at_ (x0 := .bool (ngB ra.1)) (x1 := .slice Aa na ca) (x2 := .int .i64 (ra.2.1 : Int)) (g := ga) E (by simp)).c1, (St.at_ (x0 := .bool (ngB ra.1)) (x1 := .slice Aa na ca) (x2 := .int .i64 (ra.2.1 : Int)) (g := ga) E (by simp)).c2, (St.at_ (x0 := .bool (ngB rc.1)) (x1 := .slice Ac nc cc) (x2 := .int .i64 (rc.2.1 : Int)) (g := gc) E (by simp)).c0, (St.at_ (x0 := .bool (ngB rc.1)) (x1 := .slice Ac nc cc) (x2 := .int .i64 (rc.2.1 : Int)) (g := gc) E (by simp)).c1, (St.at_ (x0 := .bool (ngB rc.1)) (x1 := .slice Ac nc cc) (x2 := .int .i64 (rc.2.1 : Int)) (g := gc) E (by simp)).c2, (St.at_ (x0 := .bool (ngB rd.1)) (x1 := .slice Ad nd cd) (x2 := .int .i64 (rd.2.1 : Int)) (g := gd) E (by simp)).c0, (St.at_ (x0 := .bool (ngB rd.1)) (x1 := .slice Ad nd cd) (x2 := .int .i64 (rd.2.1 : Int)) (g := gd) E (by simp)).c1, (St.at_ (x0 := .bool (ngB rd.1)) (x1 := .slice Ad nd cd) (x2 := .int .i64 (rd.2.1 : Int)) (g := gd) E (by simp)).c2⟩
  refine ⟨_, rfl, hSw, ?_⟩; intro a ha
  refine line_call vvzR 22 22 [] 100 (args := #[.agg #[.bool (ngB ra.1), .slice Aa na ca, .int .i64 (ra.2.1 : Int)], .agg #[.bool (ngB xa), .slice Ae ne ce, .int .i64 (ka : Int)]]) [(93, .bool true), (3, .pointer (some ⟨w.heap.size, 0, none⟩)), (4, .pointer (some ⟨w.heap.size + 1, 0, none⟩)), (5, .pointer (some ⟨w.heap.size + 1 + 1, 0, none⟩)), (7, .string T0), (8, .string T1), (9, .string T2), (13, .pointer (some ⟨gc, 0, none⟩)), (14, .int .i64 (MB : Int)), (15, .int .i64 0), (16, .pointer (some ⟨gd, 0, none⟩)), (18, .int .i64 0)] rfl (by decide) (by decide) (by decide) ha (fun o ho hg => ⟨(vvzR.wanted hg rfl ha (d := 93) (by simp)), e_call13 (by kernel_rfl) ho rfl (by have q0 := ha.ev (i := 94) (v := .agg #[.bool (ngB ra.1), .slice Aa na ca, .int .i64 (ra.2.1 : Int)]) (by simp); have q1 := ha.ev (i := 99) (v := .agg #[.bool (ngB xa), .slice Ae ne ce, .int .i64 (ka : Int)]) (by simp); simp only [List.map_toArray, List.map_cons, List.map_nil, ev_const, q0, q1])⟩) (by simp) ?_
  refine (alike_is5 (i := ra.1) (j := xa) (s := ra.2.1) (t := ka) (St.got E (A := Aa) (n := na) (c := ca) (a := (ra.1).natAbs) (by simp)) (St.got E (A := Ae) (n := ne) (c := ce) (a := (xa).natAbs) (by simp)) (b := true) KA.out).mono ?_; rintro e y4 ⟨rfl, hb⟩
  replace E := Lib.hid (E.out.step hb)
  clear hb
  have hSw : (fun v : World => v.cell? ⟨w.heap.size, 0, none⟩ = some (.bool (ngB i)) ∧ v.cell? ⟨w.heap.size, 1, none⟩ = some (.slice A1 n1 c1) ∧ v.cell? ⟨w.heap.size, 2, none⟩ = some (.int .i64 (s : Int)) ∧ v.cell? ⟨w.heap.size + 1, 0, none⟩ = some (.bool (ngB j)) ∧ v.cell? ⟨w.heap.size + 1, 1, none⟩ = some (.slice A2 n2 c2) ∧ v.cell? ⟨w.heap.size + 1, 2, none⟩ = some (.int .i64 (t : Int)) ∧ v.cell? ⟨w.heap.size + 1 + 1, 0, none⟩ = some (.bool (ngB l)) ∧ v.cell? ⟨w.heap.size + 1 + 1, 1, none⟩ = some (.slice A3 n3 c3) ∧ v.cell? ⟨w.heap.size + 1 + 1, 2, none⟩ = some (.int .i64 (u : Int)) ∧ v.cell? ⟨ga, 0, none⟩ = some (.bool (ngB ra.1)) ∧ v.cell? ⟨ga, 1, none⟩ = some (.slice Aa na ca) ∧ v.cell? ⟨ga, 2, none⟩ = some (.int .i64 (ra.2.1 : Int)) ∧ v.cell? ⟨gc, 0, none⟩ = some (.bool (ngB rc.1)) ∧ v.cell? ⟨gc, 1, none⟩ = some (.slice Ac nc cc) ∧ v.cell? ⟨gc, 2, none⟩ = some (.int .i64 (rc.2.1 : Int)) ∧ v.cell? ⟨gd, 0, none⟩ = some (.bool (ngB rd.1)) ∧ v.cell? ⟨gd, 1, none⟩ = some (.slice Ad nd cd) ∧ v.cell? ⟨gd, 2, none⟩ = some (.int .i64 (rd.2.1 : Int))) y4 := ⟨(St.at_ (x0 := .bool (ngB i)) (x1 := .slice A1 n1 c1) (x2 := .int .i64 (s : Int)) (g := w.heap.size) E (by simp)).c0, (St.at_ (x0 := .bool (ngB i)) (x1 := .slice A1 n1 c1) (x2 := .int .i64 (s : Int)) (g := w.heap.size) E (by simp)).c1, (St.at_ (x0 := .bool (ngB i)) (x1 := .slice A1 n1 c1) (x2 := .int .i64 (s : Int)) (g := w.heap.size) E (by simp)).c2, (St.at_ (x0 := .bool (ngB j)) (x1 := .slice A2 n2 c2) (x2 := .int .i64 (t : Int)) (g := w.heap.size + 1) E (by simp)).c0, (St.at_ (x0 := .bool (ngB j)) (x1 := .slice A2 n2 c2) (x2 := .int .i64 (t : Int)) (g := w.heap.size + 1) E (by simp)).c1, (St.at_ (x0 := .bool (ngB j)) (x1 := .slice A2 n2 c2) (x2 := .int .i64 (t : Int)) (g := w.heap.size + 1) E (by simp)).c2, (St.at_ (x0 := .bool (ngB l)) (x1 := .slice A3 n3 c3) (x2 := .int .i64 (u : Int)) (g := w.heap.size + 1 + 1) E (by simp)).c0, (St.at_ (x0 := .bool (ngB l)) (x1 := .slice A3 n3 c3) (x2 := .int .i64 (u : Int)) (g := w.heap.size + 1 + 1) E (by simp)).c1, (St.at_ (x0 := .bool (ngB l)) (x1 := .slice A3 n3 c3) (x2 := .int .i64 (u : Int)) (g := w.heap.size + 1 + 1) E (by simp)).c2, (St.at_ (x0 := .bool (ngB ra.1)) (x1 := .slice Aa na ca) (x2 := .int .i64 (ra.2.1 : Int)) (g := ga) E (by simp)).c0, (St.at_ (x0 := .bool (ngB ra.1)) (x1 := .slice Aa na ca) (x2 := .int .i64 (ra.2.1 : Int)) (g := ga) E (by simp)).c1, (St.at_ (x0 := .bool (ngB ra.1)) (x1 := .slice Aa na ca) (x2 := .int .i64 (ra.2.1 : Int)) (g := ga) E (by simp)).c2, (St.at_ (x0 := .bool (ngB rc.1)) (x1 := .slice Ac nc cc) (x2 := .int .i64 (rc.2.1 : Int)) (g := gc) E (by simp)).c0, (St.at_ (x0 := .bool (ngB rc.1)) (x1 := .slice Ac nc cc) (x2 := .int .i64 (rc.2.1 : Int)) (g := gc) E (by simp)).c1, (St.at_ (x0 := .bool (ngB rc.1)) (x1 := .slice Ac nc cc) (x2 := .int .i64 (rc.2.1 : Int)) (g := gc) E (by simp)).c2, (St.at_ (x0 := .bool (ngB rd.1)) (x1 := .slice Ad nd cd) (x2 := .int .i64 (rd.2.1 : Int)) (g := gd) E (by simp)).c0, (St.at_ (x0 := .bool (ngB rd.1)) (x1 := .slice Ad nd cd) (x2 := .int .i64 (rd.2.1 : Int)) (g := gd) E (by simp)).c1, (St.at_ (x0 := .bool (ngB rd.1)) (x1 := .slice Ad nd cd) (x2 := .int .i64 (rd.2.1 : Int)) (g := gd) E (by simp)).c2⟩
  refine ⟨_, rfl, hSw, ?_⟩; intro a ha
  refine line_still vvzR 23 23 [] 101 (.bool true) [(3, .pointer (some ⟨w.heap.size, 0, none⟩)), (4, .pointer (some ⟨w.heap.size + 1, 0, none⟩)), (5, .pointer (some ⟨w.heap.size + 1 + 1, 0, none⟩)), (7, .string T0), (8, .string T1), (9, .string T2), (13, .pointer (some ⟨gc, 0, none⟩)), (14, .int .i64 (MB : Int)), (15, .int .i64 0), (16, .pointer (some ⟨gd, 0, none⟩)), (18, .int .i64 0)] rfl (by decide) (by decide) (by decide) ha (fun o ho hg => y_of (wanted_none hg) (fun wx hS => e_pick ho (ha.ev (i := 93) (v := .bool true) (by simp)) (ha.ev (i := 100) (v := .bool true) (by simp)) rfl)) (by simp) hSw ?_; intro a ha
  refine line_still vvzR 24 24 [] 102 (.bool true) [(3, .pointer (some ⟨w.heap.size, 0, none⟩)), (4, .pointer (some ⟨w.heap.size + 1, 0, none⟩)), (5, .pointer (some ⟨w.heap.size + 1 + 1, 0, none⟩)), (7, .string T0), (8, .string T1), (9, .string T2), (13, .pointer (some ⟨gc, 0, none⟩)), (14, .int .i64 (MB : Int)), (15, .int .i64 0), (16, .pointer (some ⟨gd, 0, none⟩)), (18, .int .i64 0)] rfl (by decide) (by decide) (by decide) ha (fun o ho hg => y_of (wanted_none hg) (fun wx hS => e_move (.inl ho) (ha.ev (i := 101) (v := .bool true) (by simp)))) (by simp) hSw ?_; intro a ha
  refine line_still vvzR 25 25 [] 103 (.int .i64 0) [(102, .bool true), (3, .pointer (some ⟨w.heap.size, 0, none⟩)), (4, .pointer (some ⟨w.heap.size + 1, 0, none⟩)), (5, .pointer (some ⟨w.heap.size + 1 + 1, 0, none⟩)), (7, .string T0), (8, .string T1), (9, .string T2), (13, .pointer (some ⟨gc, 0, none⟩)), (14, .int .i64 (MB : Int)), (16, .pointer (some ⟨gd, 0, none⟩)), (18, .int .i64 0)] rfl (by decide) (by decide) (by decide) ha (fun o ho hg => y_of (vvzR.wanted hg rfl ha (d := 102) (by simp)) (fun wx hS => e_move (.inl ho) (ha.ev (i := 15) (v := .int .i64 0) (by simp)))) (by simp) hSw ?_; intro a ha
  refine line_still vvzR 26 26 [] 104 (.bool true) [(102, .bool true), (3, .pointer (some ⟨w.heap.size, 0, none⟩)), (4, .pointer (some ⟨w.heap.size + 1, 0, none⟩)), (5, .pointer (some ⟨w.heap.size + 1 + 1, 0, none⟩)), (7, .string T0), (8, .string T1), (9, .string T2), (13, .pointer (some ⟨gc, 0, none⟩)), (14, .int .i64 (MB : Int)), (16, .pointer (some ⟨gd, 0, none⟩)), (18, .int .i64 0)] rfl (by decide) (by decide) (by decide) ha (fun o ho hg => y_of (vvzR.wanted hg rfl ha (d := 102) (by simp)) (fun wx hS => e_eq13 (by decide) ho (ha.ev (i := 103) (v := .int .i64 0) (by simp)) rfl)) (by simp) hSw ?_; intro a ha
  refine line_still vvzR 27 27 [] 105 (.bool true) [(3, .pointer (some ⟨w.heap.size, 0, none⟩)), (4, .pointer (some ⟨w.heap.size + 1, 0, none⟩)), (5, .pointer (some ⟨w.heap.size + 1 + 1, 0, none⟩)), (7, .string T0), (8, .string T1), (9, .string T2), (13, .pointer (some ⟨gc, 0, none⟩)), (14, .int .i64 (MB : Int)), (16, .pointer (some ⟨gd, 0, none⟩)), (18, .int .i64 0)] rfl (by decide) (by decide) (by decide) ha (fun o ho hg => y_of (wanted_none hg) (fun wx hS => e_pick ho (ha.ev (i := 102) (v := .bool true) (by simp)) (ha.ev (i := 104) (v := .bool true) (by simp)) rfl)) (by simp) hSw ?_; intro a ha
  refine line_still vvzR 28 28 [] 106 (.bool true) [(3, .pointer (some ⟨w.heap.size, 0, none⟩)), (4, .pointer (some ⟨w.heap.size + 1, 0, none⟩)), (5, .pointer (some ⟨w.heap.size + 1 + 1, 0, none⟩)), (7, .string T0), (8, .string T1), (9, .string T2), (13, .pointer (some ⟨gc, 0, none⟩)), (14, .int .i64 (MB : Int)), (16, .pointer (some ⟨gd, 0, none⟩)), (18, .int .i64 0)] rfl (by decide) (by decide) (by decide) ha (fun o ho hg => y_of (wanted_none hg) (fun wx hS => e_move (.inl ho) (ha.ev (i := 105) (v := .bool true) (by simp)))) (by simp) hSw ?_; intro a ha
  refine line_still vvzR 29 29 [] 107 (.int .i64 (MB : Int)) [(106, .bool true), (3, .pointer (some ⟨w.heap.size, 0, none⟩)), (4, .pointer (some ⟨w.heap.size + 1, 0, none⟩)), (5, .pointer (some ⟨w.heap.size + 1 + 1, 0, none⟩)), (7, .string T0), (8, .string T1), (9, .string T2), (13, .pointer (some ⟨gc, 0, none⟩)), (16, .pointer (some ⟨gd, 0, none⟩)), (18, .int .i64 0)] rfl (by decide) (by decide) (by decide) ha (fun o ho hg => y_of (vvzR.wanted hg rfl ha (d := 106) (by simp)) (fun wx hS => e_move (.inl ho) (ha.ev (i := 14) (v := .int .i64 (MB : Int)) (by simp)))) (by simp) hSw ?_; intro a ha
  refine line_still vvzR 30 30 [] 108 (.string T0) [(107, .int .i64 (MB : Int)), (106, .bool true), (3, .pointer (some ⟨w.heap.size, 0, none⟩)), (4, .pointer (some ⟨w.heap.size + 1, 0, none⟩)), (5, .pointer (some ⟨w.heap.size + 1 + 1, 0, none⟩)), (8, .string T1), (9, .string T2), (13, .pointer (some ⟨gc, 0, none⟩)), (16, .pointer (some ⟨gd, 0, none⟩)), (18, .int .i64 0)] rfl (by decide) (by decide) (by decide) ha (fun o ho hg => y_of (vvzR.wanted hg rfl ha (d := 106) (by simp)) (fun wx hS => e_move (.inl ho) (ha.ev (i := 7) (v := .string T0) (by simp)))) (by simp) hSw ?_; intro a ha
  refine line_still vvzR 31 31 [] 109 (.string P1) [(107, .int .i64 (MB : Int)), (106, .bool true), (3, .pointer (some ⟨w.heap.size, 0, none⟩)), (4, .pointer (some ⟨w.heap.size + 1, 0, none⟩)), (5, .pointer (some ⟨w.heap.size + 1 + 1, 0, none⟩)), (8, .string T1), (9, .string T2), (13, .pointer (some ⟨gc, 0, none⟩)), (16, .pointer (some ⟨gd, 0, none⟩)), (18, .int .i64 0)] rfl (by decide) (by decide) (by decide) ha (fun o ho hg => y_of (vvzR.wanted hg rfl ha (d := 106) (by simp)) (fun wx hS => e_add13 hcP1 ho rfl (ha.ev (i := 108) (v := .string T0) (by simp)))) (by simp) hSw ?_; intro a ha
  refine line_still vvzR 32 32 [] 110 (.string P2) [(107, .int .i64 (MB : Int)), (106, .bool true), (3, .pointer (some ⟨w.heap.size, 0, none⟩)), (4, .pointer (some ⟨w.heap.size + 1, 0, none⟩)), (5, .pointer (some ⟨w.heap.size + 1 + 1, 0, none⟩)), (8, .string T1), (9, .string T2), (13, .pointer (some ⟨gc, 0, none⟩)), (16, .pointer (some ⟨gd, 0, none⟩)), (18, .int .i64 0)] rfl (by decide) (by decide) (by decide) ha (fun o ho hg => y_of (vvzR.wanted hg rfl ha (d := 106) (by simp)) (fun wx hS => e_add13 hcP2 ho (ha.ev (i := 109) (v := .string P1) (by simp)) rfl)) (by simp) hSw ?_; intro a ha
  refine line_still vvzR 33 33 [] 111 (.string T1) [(110, .string P2), (107, .int .i64 (MB : Int)), (106, .bool true), (3, .pointer (some ⟨w.heap.size, 0, none⟩)), (4, .pointer (some ⟨w.heap.size + 1, 0, none⟩)), (5, .pointer (some ⟨w.heap.size + 1 + 1, 0, none⟩)), (9, .string T2), (13, .pointer (some ⟨gc, 0, none⟩)), (16, .pointer (some ⟨gd, 0, none⟩)), (18, .int .i64 0)] rfl (by decide) (by decide) (by decide) ha (fun o ho hg => y_of (vvzR.wanted hg rfl ha (d := 106) (by simp)) (fun wx hS => e_move (.inl ho) (ha.ev (i := 8) (v := .string T1) (by simp)))) (by simp) hSw ?_; intro a ha
  refine line_still vvzR 34 34 [] 112 (.string P3) [(107, .int .i64 (MB : Int)), (106, .bool true), (3, .pointer (some ⟨w.heap.size, 0, none⟩)), (4, .pointer (some ⟨w.heap.size + 1, 0, none⟩)), (5, .pointer (some ⟨w.heap.size + 1 + 1, 0, none⟩)), (9, .string T2), (13, .pointer (some ⟨gc, 0, none⟩)), (16, .pointer (some ⟨gd, 0, none⟩)), (18, .int .i64 0)] rfl (by decide) (by decide) (by decide) ha (fun o ho hg => y_of (vvzR.wanted hg rfl ha (d := 106) (by simp)) (fun wx hS => e_add13 hcP3 ho (ha.ev (i := 110) (v := .string P2) (by simp)) (ha.ev (i := 111) (v := .string T1) (by simp)))) (by simp) hSw ?_; intro a ha
  refine line_still vvzR 35 35 [] 113 (.string P4) [(107, .int .i64 (MB : Int)), (106, .bool true), (3, .pointer (some ⟨w.heap.size, 0, none⟩)), (4, .pointer (some ⟨w.heap.size + 1, 0, none⟩)), (5, .pointer (some ⟨w.heap.size + 1 + 1, 0, none⟩)), (9, .string T2), (13, .pointer (some ⟨gc, 0, none⟩)), (16, .pointer (some ⟨gd, 0, none⟩)), (18, .int .i64 0)] rfl (by decide) (by decide) (by decide) ha (fun o ho hg => y_of (vvzR.wanted hg rfl ha (d := 106) (by simp)) (fun wx hS => e_add13 hcP4 ho (ha.ev (i := 112) (v := .string P3) (by simp)) rfl)) (by simp) hSw ?_; intro a ha
  refine line_still vvzR 36 36 [] 114 (.string T2) [(113, .string P4), (107, .int .i64 (MB : Int)), (106, .bool true), (3, .pointer (some ⟨w.heap.size, 0, none⟩)), (4, .pointer (some ⟨w.heap.size + 1, 0, none⟩)), (5, .pointer (some ⟨w.heap.size + 1 + 1, 0, none⟩)), (13, .pointer (some ⟨gc, 0, none⟩)), (16, .pointer (some ⟨gd, 0, none⟩)), (18, .int .i64 0)] rfl (by decide) (by decide) (by decide) ha (fun o ho hg => y_of (vvzR.wanted hg rfl ha (d := 106) (by simp)) (fun wx hS => e_move (.inl ho) (ha.ev (i := 9) (v := .string T2) (by simp)))) (by simp) hSw ?_; intro a ha
  refine line_still vvzR 37 37 [] 115 (.string P5) [(107, .int .i64 (MB : Int)), (106, .bool true), (3, .pointer (some ⟨w.heap.size, 0, none⟩)), (4, .pointer (some ⟨w.heap.size + 1, 0, none⟩)), (5, .pointer (some ⟨w.heap.size + 1 + 1, 0, none⟩)), (13, .pointer (some ⟨gc, 0, none⟩)), (16, .pointer (some ⟨gd, 0, none⟩)), (18, .int .i64 0)] rfl (by decide) (by decide) (by decide) ha (fun o ho hg => y_of (vvzR.wanted hg rfl ha (d := 106) (by simp)) (fun wx hS => e_add13 hcP5 ho (ha.ev (i := 113) (v := .string P4) (by simp)) (ha.ev (i := 114) (v := .string T2) (by simp)))) (by simp) hSw ?_; intro a ha
  refine line_call vvzR 38 38 [] 116 (args := #[.string P5]) [(107, .int .i64 (MB : Int)), (106, .bool true), (3, .pointer (some ⟨w.heap.size, 0, none⟩)), (4, .pointer (some ⟨w.heap.size + 1, 0, none⟩)), (5, .pointer (some ⟨w.heap.size + 1 + 1, 0, none⟩)), (13, .pointer (some ⟨gc, 0, none⟩)), (16, .pointer (some ⟨gd, 0, none⟩)), (18, .int .i64 0)] rfl (by decide) (by decide) (by decide) ha (fun o ho hg => ⟨(vvzR.wanted hg rfl ha (d := 106) (by simp)), e_call13 (by kernel_rfl) ho rfl (by have q0 := ha.ev (i := 115) (v := .string P5) (by simp); simp only [List.map_toArray, List.map_cons, List.map_nil, ev_const, q0])⟩) (by simp) ?_
  refine (words_usM (okw12 HOK.out E.out.bel) HUb.out HWb.out HMb.out).mono ?_; rintro e y5 ⟨By5, dy5, rfl, hb⟩
  replace E := Lib.hid (E.out.step hb)
  clear hb
  have hSw : (fun v : World => v.cell? ⟨w.heap.size, 0, none⟩ = some (.bool (ngB i)) ∧ v.cell? ⟨w.heap.size, 1, none⟩ = some (.slice A1 n1 c1) ∧ v.cell? ⟨w.heap.size, 2, none⟩ = some (.int .i64 (s : Int)) ∧ v.cell? ⟨w.heap.size + 1, 0, none⟩ = some (.bool (ngB j)) ∧ v.cell? ⟨w.heap.size + 1, 1, none⟩ = some (.slice A2 n2 c2) ∧ v.cell? ⟨w.heap.size + 1, 2, none⟩ = some (.int .i64 (t : Int)) ∧ v.cell? ⟨w.heap.size + 1 + 1, 0, none⟩ = some (.bool (ngB l)) ∧ v.cell? ⟨w.heap.size + 1 + 1, 1, none⟩ = some (.slice A3 n3 c3) ∧ v.cell? ⟨w.heap.size + 1 + 1, 2, none⟩ = some (.int .i64 (u : Int)) ∧ v.cell? ⟨ga, 0, none⟩ = some (.bool (ngB ra.1)) ∧ v.cell? ⟨ga, 1, none⟩ = some (.slice Aa na ca) ∧ v.cell? ⟨ga, 2, none⟩ = some (.int .i64 (ra.2.1 : Int)) ∧ v.cell? ⟨gc, 0, none⟩ = some (.bool (ngB rc.1)) ∧ v.cell? ⟨gc, 1, none⟩ = some (.slice Ac nc cc) ∧ v.cell? ⟨gc, 2, none⟩ = some (.int .i64 (rc.2.1 : Int)) ∧ v.cell? ⟨gd, 0, none⟩ = some (.bool (ngB rd.1)) ∧ v.cell? ⟨gd, 1, none⟩ = some (.slice Ad nd cd) ∧ v.cell? ⟨gd, 2, none⟩ = some (.int .i64 (rd.2.1 : Int))) y5 := ⟨(St.at_ (x0 := .bool (ngB i)) (x1 := .slice A1 n1 c1) (x2 := .int .i64 (s : Int)) (g := w.heap.size) E (by simp)).c0, (St.at_ (x0 := .bool (ngB i)) (x1 := .slice A1 n1 c1) (x2 := .int .i64 (s : Int)) (g := w.heap.size) E (by simp)).c1, (St.at_ (x0 := .bool (ngB i)) (x1 := .slice A1 n1 c1) (x2 := .int .i64 (s : Int)) (g := w.heap.size) E (by simp)).c2, (St.at_ (x0 := .bool (ngB j)) (x1 := .slice A2 n2 c2) (x2 := .int .i64 (t : Int)) (g := w.heap.size + 1) E (by simp)).c0, (St.at_ (x0 := .bool (ngB j)) (x1 := .slice A2 n2 c2) (x2 := .int .i64 (t : Int)) (g := w.heap.size + 1) E (by simp)).c1, (St.at_ (x0 := .bool (ngB j)) (x1 := .slice A2 n2 c2) (x2 := .int .i64 (t : Int)) (g := w.heap.size + 1) E (by simp)).c2, (St.at_ (x0 := .bool (ngB l)) (x1 := .slice A3 n3 c3) (x2 := .int .i64 (u : Int)) (g := w.heap.size + 1 + 1) E (by simp)).c0, (St.at_ (x0 := .bool (ngB l)) (x1 := .slice A3 n3 c3) (x2 := .int .i64 (u : Int)) (g := w.heap.size + 1 + 1) E (by simp)).c1, (St.at_ (x0 := .bool (ngB l)) (x1 := .slice A3 n3 c3) (x2 := .int .i64 (u : Int)) (g := w.heap.size + 1 + 1) E (by simp)).c2, (St.at_ (x0 := .bool (ngB ra.1)) (x1 := .slice Aa na ca) (x2 := .int .i64 (ra.2.1 : Int)) (g := ga) E (by simp)).c0, (St.at_ (x0 := .bool (ngB ra.1)) (x1 := .slice Aa na ca) (x2 := .int .i64 (ra.2.1 : Int)) (g := ga) E (by simp)).c1, (St.at_ (x0 := .bool (ngB ra.1)) (x1 := .slice Aa na ca) (x2 := .int .i64 (ra.2.1 : Int)) (g := ga) E (by simp)).c2, (St.at_ (x0 := .bool (ngB rc.1)) (x1 := .slice Ac nc cc) (x2 := .int .i64 (rc.2.1 : Int)) (g := gc) E (by simp)).c0, (St.at_ (x0 := .bool (ngB rc.1)) (x1 := .slice Ac nc cc) (x2 := .int .i64 (rc.2.1 : Int)) (g := gc) E (by simp)).c1, (St.at_ (x0 := .bool (ngB rc.1)) (x1 := .slice Ac nc cc) (x2 := .int .i64 (rc.2.1 : Int)) (g := gc) E (by simp)).c2, (St.at_ (x0 := .bool (ngB rd.1)) (x1 := .slice Ad nd cd) (x2 := .int .i64 (rd.2.1 : Int)) (g := gd) E (by simp)).c0, (St.at_ (x0 := .bool (ngB rd.1)) (x1 := .slice Ad nd cd) (x2 := .int .i64 (rd.2.1 : Int)) (g := gd) E (by simp)).c1, (St.at_ (x0 := .bool (ngB rd.1)) (x1 := .slice Ad nd cd) (x2 := .int .i64 (rd.2.1 : Int)) (g := gd) E (by simp)).c2⟩
  refine ⟨_, rfl, hSw, ?_⟩; intro a ha
  refine line_still vvzR 39 39 [] 117 (.int .i64 (MB : Int)) [(107, .int .i64 (MB : Int)), (106, .bool true), (3, .pointer (some ⟨w.heap.size, 0, none⟩)), (4, .pointer (some ⟨w.heap.size + 1, 0, none⟩)), (5, .pointer (some ⟨w.heap.size + 1 + 1, 0, none⟩)), (13, .pointer (some ⟨gc, 0, none⟩)), (16, .pointer (some ⟨gd, 0, none⟩)), (18, .int .i64 0)] rfl (by decide) (by decide) (by decide) ha (fun o ho hg => y_of (vvzR.wanted hg rfl ha (d := 106) (by simp)) (fun wx hS => e_len13 ho (ha.ev (i := 116) (v := .slice By5 MB dy5) (by simp)))) (by simp) hSw ?_; intro a ha
  refine line_still vvzR 40 40 [] 118 (.bool true) [(106, .bool true), (3, .pointer (some ⟨w.heap.size, 0, none⟩)), (4, .pointer (some ⟨w.heap.size + 1, 0, none⟩)), (5, .pointer (some ⟨w.heap.size + 1 + 1, 0, none⟩)), (13, .pointer (some ⟨gc, 0, none⟩)), (16, .pointer (some ⟨gd, 0, none⟩)), (18, .int .i64 0)] rfl (by decide) (by decide) (by decide) ha (fun o ho hg => y_of (vvzR.wanted hg rfl ha (d := 106) (by simp)) (fun wx hS => e_eq13 (by simp) ho (ha.ev (i := 107) (v := .int .i64 (MB : Int)) (by simp)) (ha.ev (i := 117) (v := .int .i64 (MB : Int)) (by simp)))) (by simp) hSw ?_; intro a ha
  refine line_still vvzR 41 41 [] 119 (.bool true) [(3, .pointer (some ⟨w.heap.size, 0, none⟩)), (4, .pointer (some ⟨w.heap.size + 1, 0, none⟩)), (5, .pointer (some ⟨w.heap.size + 1 + 1, 0, none⟩)), (13, .pointer (some ⟨gc, 0, none⟩)), (16, .pointer (some ⟨gd, 0, none⟩)), (18, .int .i64 0)] rfl (by decide) (by decide) (by decide) ha (fun o ho hg => y_of (wanted_none hg) (fun wx hS => e_pick ho (ha.ev (i := 106) (v := .bool true) (by simp)) (ha.ev (i := 118) (v := .bool true) (by simp)) rfl)) (by simp) hSw ?_; intro a ha
  refine line_still vvzR 42 42 [] 120 (.bool true) [(3, .pointer (some ⟨w.heap.size, 0, none⟩)), (4, .pointer (some ⟨w.heap.size + 1, 0, none⟩)), (5, .pointer (some ⟨w.heap.size + 1 + 1, 0, none⟩)), (13, .pointer (some ⟨gc, 0, none⟩)), (16, .pointer (some ⟨gd, 0, none⟩)), (18, .int .i64 0)] rfl (by decide) (by decide) (by decide) ha (fun o ho hg => y_of (wanted_none hg) (fun wx hS => e_move (.inl ho) (ha.ev (i := 119) (v := .bool true) (by simp)))) (by simp) hSw ?_; intro a ha
  refine line_still vvzR 43 43 [] 121 (.agg #[.bool (ngB rc.1), .slice Ac nc cc, .int .i64 (rc.2.1 : Int)]) [(120, .bool true), (3, .pointer (some ⟨w.heap.size, 0, none⟩)), (4, .pointer (some ⟨w.heap.size + 1, 0, none⟩)), (5, .pointer (some ⟨w.heap.size + 1 + 1, 0, none⟩)), (16, .pointer (some ⟨gd, 0, none⟩)), (18, .int .i64 0)] rfl (by decide) (by decide) (by decide) ha (fun o ho hg => y_of (vvzR.wanted hg rfl ha (d := 120) (by simp)) (fun wx hS => e_loadD13 ho (ha.ev (i := 13) (v := .pointer (some ⟨gc, 0, none⟩)) (by simp)) (hS.2.2.2.2.2.2.2.2.2.2.2.2.1) (hS.2.2.2.2.2.2.2.2.2.2.2.2.2.1) (hS.2.2.2.2.2.2.2.2.2.2.2.2.2.2.1))) (by simp) hSw ?_; intro a ha
  refine line_still vvzR 44 44 [] 122 (.agg #[.bool (ngB i), .slice A1 n1 c1, .int .i64 (s : Int)]) [(121, .agg #[.bool (ngB rc.1), .slice Ac nc cc, .int .i64 (rc.2.1 : Int)]), (120, .bool true), (3, .pointer (some ⟨w.heap.size, 0, none⟩)), (4, .pointer (some ⟨w.heap.size + 1, 0, none⟩)), (5, .pointer (some ⟨w.heap.size + 1 + 1, 0, none⟩)), (16, .pointer (some ⟨gd, 0, none⟩)), (18, .int .i64 0)] rfl (by decide) (by decide) (by decide) ha (fun o ho hg => y_of (vvzR.wanted hg rfl ha (d := 120) (by simp)) (fun wx hS => e_loadD13 ho (ha.ev (i := 3) (v := .pointer (some ⟨w.heap.size, 0, none⟩)) (by simp)) (hS.1) (hS.2.1) (hS.2.2.1))) (by simp) hSw ?_; intro a ha
  refine line_still vvzR 45 45 [] 123 (.agg #[.bool (ngB j), .slice A2 n2 c2, .int .i64 (t : Int)]) [(122, .agg #[.bool (ngB i), .slice A1 n1 c1, .int .i64 (s : Int)]), (121, .agg #[.bool (ngB rc.1), .slice Ac nc cc, .int .i64 (rc.2.1 : Int)]), (120, .bool true), (3, .pointer (some ⟨w.heap.size, 0, none⟩)), (4, .pointer (some ⟨w.heap.size + 1, 0, none⟩)), (5, .pointer (some ⟨w.heap.size + 1 + 1, 0, none⟩)), (16, .pointer (some ⟨gd, 0, none⟩)), (18, .int .i64 0)] rfl (by decide) (by decide) (by decide) ha (fun o ho hg => y_of (vvzR.wanted hg rfl ha (d := 120) (by simp)) (fun wx hS => e_loadD13 ho (ha.ev (i := 4) (v := .pointer (some ⟨w.heap.size + 1, 0, none⟩)) (by simp)) (hS.2.2.2.1) (hS.2.2.2.2.1) (hS.2.2.2.2.2.1))) (by simp) hSw ?_; intro a ha
  refine line_ahead vvzR 46 46 [] 47 125 (.agg #[.bool (ngB l), .slice A3 n3 c3, .int .i64 (u : Int)]) [(123, .agg #[.bool (ngB j), .slice A2 n2 c2, .int .i64 (t : Int)]), (122, .agg #[.bool (ngB i), .slice A1 n1 c1, .int .i64 (s : Int)]), (121, .agg #[.bool (ngB rc.1), .slice Ac nc cc, .int .i64 (rc.2.1 : Int)]), (120, .bool true), (3, .pointer (some ⟨w.heap.size, 0, none⟩)), (4, .pointer (some ⟨w.heap.size + 1, 0, none⟩)), (5, .pointer (some ⟨w.heap.size + 1 + 1, 0, none⟩)), (16, .pointer (some ⟨gd, 0, none⟩)), (18, .int .i64 0)] rfl (by decide) (by decide) (by decide) ha (fun o ho hg => y_of (vvzR.wanted hg rfl ha (d := 120) (by simp)) (fun wx hS => e_loadD13 ho (ha.ev (i := 5) (v := .pointer (some ⟨w.heap.size + 1 + 1, 0, none⟩)) (by simp)) (hS.2.2.2.2.2.2.1) (hS.2.2.2.2.2.2.2.1) (hS.2.2.2.2.2.2.2.2.1))) (by simp) hSw ?_; intro a ha
  refine line_call vvzR 47 46 [47] 124 (args := #[.agg #[.bool (ngB i), .slice A1 n1 c1, .int .i64 (s : Int)], .agg #[.bool (ngB j), .slice A2 n2 c2, .int .i64 (t : Int)]]) [(125, .agg #[.bool (ngB l), .slice A3 n3 c3, .int .i64 (u : Int)]), (121, .agg #[.bool (ngB rc.1), .slice Ac nc cc, .int .i64 (rc.2.1 : Int)]), (120, .bool true), (3, .pointer (some ⟨w.heap.size, 0, none⟩)), (4, .pointer (some ⟨w.heap.size + 1, 0, none⟩)), (5, .pointer (some ⟨w.heap.size + 1 + 1, 0, none⟩)), (16, .pointer (some ⟨gd, 0, none⟩)), (18, .int .i64 0)] rfl (by decide) (by decide) (by decide) ha (fun o ho hg => ⟨(vvzR.wanted hg rfl ha (d := 120) (by simp)), e_call13 (by kernel_rfl) ho rfl (by have q0 := ha.ev (i := 122) (v := .agg #[.bool (ngB i), .slice A1 n1 c1, .int .i64 (s : Int)]) (by simp); have q1 := ha.ev (i := 123) (v := .agg #[.bool (ngB j), .slice A2 n2 c2, .int .i64 (t : Int)]) (by simp); simp only [List.map_toArray, List.map_cons, List.map_nil, ev_const, q0, q1])⟩) (by simp) ?_
  refine (add_is5 (i := i) (j := j) (s := s) (t := t) (St.got E (A := A1) (n := n1) (c := c1) (a := (i).natAbs) (by simp)) (St.got E (A := A2) (n := n2) (c := c2) (a := (j).natAbs) (by simp)) (by omega) (by omega) (by omega) (by omega) HKb1.out HXb1.out).mono ?_; rintro e y6 ⟨Af, nf, cf, rfl, hnum, hb⟩
  have hnnf : nf ≤ 1000 := by have h5 := hnum.len; have h6 := BB.out; omega
  replace E := Lib.hid (E.out.push hb hnum)
  clear hb hnum
  have hSw : (fun v : World => v.cell? ⟨w.heap.size, 0, none⟩ = some (.bool (ngB i)) ∧ v.cell? ⟨w.heap.size, 1, none⟩ = some (.slice A1 n1 c1) ∧ v.cell? ⟨w.heap.size, 2, none⟩ = some (.int .i64 (s : Int)) ∧ v.cell? ⟨w.heap.size + 1, 0, none⟩ = some (.bool (ngB j)) ∧ v.cell? ⟨w.heap.size + 1, 1, none⟩ = some (.slice A2 n2 c2) ∧ v.cell? ⟨w.heap.size + 1, 2, none⟩ = some (.int .i64 (t : Int)) ∧ v.cell? ⟨w.heap.size + 1 + 1, 0, none⟩ = some (.bool (ngB l)) ∧ v.cell? ⟨w.heap.size + 1 + 1, 1, none⟩ = some (.slice A3 n3 c3) ∧ v.cell? ⟨w.heap.size + 1 + 1, 2, none⟩ = some (.int .i64 (u : Int)) ∧ v.cell? ⟨ga, 0, none⟩ = some (.bool (ngB ra.1)) ∧ v.cell? ⟨ga, 1, none⟩ = some (.slice Aa na ca) ∧ v.cell? ⟨ga, 2, none⟩ = some (.int .i64 (ra.2.1 : Int)) ∧ v.cell? ⟨gc, 0, none⟩ = some (.bool (ngB rc.1)) ∧ v.cell? ⟨gc, 1, none⟩ = some (.slice Ac nc cc) ∧ v.cell? ⟨gc, 2, none⟩ = some (.int .i64 (rc.2.1 : Int)) ∧ v.cell? ⟨gd, 0, none⟩ = some (.bool (ngB rd.1)) ∧ v.cell? ⟨gd, 1, none⟩ = some (.slice Ad nd cd) ∧ v.cell? ⟨gd, 2, none⟩ = some (.int .i64 (rd.2.1 : Int))) y6 := ⟨(St.at_ (x0 := .bool (ngB i)) (x1 := .slice A1 n1 c1) (x2 := .int .i64 (s : Int)) (g := w.heap.size) E (by simp)).c0, (St.at_ (x0 := .bool (ngB i)) (x1 := .slice A1 n1 c1) (x2 := .int .i64 (s : Int)) (g := w.heap.size) E (by simp)).c1, (St.at_ (x0 := .bool (ngB i)) (x1 := .slice A1 n1 c1) (x2 := .int .i64 (s : Int)) (g := w.heap.size) E (by simp)).c2, (St.at_ (x0 := .bool (ngB j)) (x1 := .slice A2 n2 c2) (x2 := .int .i64 (t : Int)) (g := w.heap.size + 1) E (by simp)).c0, (St.at_ (x0 := .bool (ngB j)) (x1 := .slice A2 n2 c2) (x2 := .int .i64 (t : Int)) (g := w.heap.size + 1) E (by simp)).c1, (St.at_ (x0 := .bool (ngB j)) (x1 := .slice A2 n2 c2) (x2 := .int .i64 (t : Int)) (g := w.heap.size + 1) E (by simp)).c2, (St.at_ (x0 := .bool (ngB l)) (x1 := .slice A3 n3 c3) (x2 := .int .i64 (u : Int)) (g := w.heap.size + 1 + 1) E (by simp)).c0, (St.at_ (x0 := .bool (ngB l)) (x1 := .slice A3 n3 c3) (x2 := .int .i64 (u : Int)) (g := w.heap.size + 1 + 1) E (by simp)).c1, (St.at_ (x0 := .bool (ngB l)) (x1 := .slice A3 n3 c3) (x2 := .int .i64 (u : Int)) (g := w.heap.size + 1 + 1) E (by simp)).c2, (St.at_ (x0 := .bool (ngB ra.1)) (x1 := .slice Aa na ca) (x2 := .int .i64 (ra.2.1 : Int)) (g := ga) E (by simp)).c0, (St.at_ (x0 := .bool (ngB ra.1)) (x1 := .slice Aa na ca) (x2 := .int .i64 (ra.2.1 : Int)) (g := ga) E (by simp)).c1, (St.at_ (x0 := .bool (ngB ra.1)) (x1 := .slice Aa na ca) (x2 := .int .i64 (ra.2.1 : Int)) (g := ga) E (by simp)).c2, (St.at_ (x0 := .bool (ngB rc.1)) (x1 := .slice Ac nc cc) (x2 := .int .i64 (rc.2.1 : Int)) (g := gc) E (by simp)).c0, (St.at_ (x0 := .bool (ngB rc.1)) (x1 := .slice Ac nc cc) (x2 := .int .i64 (rc.2.1 : Int)) (g := gc) E (by simp)).c1, (St.at_ (x0 := .bool (ngB rc.1)) (x1 := .slice Ac nc cc) (x2 := .int .i64 (rc.2.1 : Int)) (g := gc) E (by simp)).c2, (St.at_ (x0 := .bool (ngB rd.1)) (x1 := .slice Ad nd cd) (x2 := .int .i64 (rd.2.1 : Int)) (g := gd) E (by simp)).c0, (St.at_ (x0 := .bool (ngB rd.1)) (x1 := .slice Ad nd cd) (x2 := .int .i64 (rd.2.1 : Int)) (g := gd) E (by simp)).c1, (St.at_ (x0 := .bool (ngB rd.1)) (x1 := .slice Ad nd cd) (x2 := .int .i64 (rd.2.1 : Int)) (g := gd) E (by simp)).c2⟩
  refine ⟨_, rfl, hSw, ?_⟩; intro a ha
  refine line_skip [] (by intro i; simp <;> omega) ?_
  refine line_call vvzR 48 48 [] 126 (args := #[.agg #[.bool (ngB xb1), .slice Af nf cf, .int .i64 (kb1 : Int)], .agg #[.bool (ngB l), .slice A3 n3 c3, .int .i64 (u : Int)]]) [(121, .agg #[.bool (ngB rc.1), .slice Ac nc cc, .int .i64 (rc.2.1 : Int)]), (120, .bool true), (3, .pointer (some ⟨w.heap.size, 0, none⟩)), (4, .pointer (some ⟨w.heap.size + 1, 0, none⟩)), (5, .pointer (some ⟨w.heap.size + 1 + 1, 0, none⟩)), (16, .pointer (some ⟨gd, 0, none⟩)), (18, .int .i64 0)] rfl (by decide) (by decide) (by decide) ha (fun o ho hg => ⟨(vvzR.wanted hg rfl ha (d := 120) (by simp)), e_call13 (by kernel_rfl) ho rfl (by have q0 := ha.ev (i := 124) (v := .agg #[.bool (ngB xb1), .slice Af nf cf, .int .i64 (kb1 : Int)]) (by simp); have q1 := ha.ev (i := 125) (v := .agg #[.bool (ngB l), .slice A3 n3 c3, .int .i64 (u : Int)]) (by simp); simp only [List.map_toArray, List.map_cons, List.map_nil, ev_const, q0, q1])⟩) (by simp) ?_
  refine (mul_is5 (i := xb1) (j := l) (s := kb1) (t := u) (St.got E (A := Af) (n := nf) (c := cf) (a := (xb1).natAbs) (by simp)) (St.got E (A := A3) (n := n3) (c := c3) (a := (l).natAbs) (by simp)) (by omega) (by omega) (by omega) (by omega) HKb.out HXb.out).mono ?_; rintro e y7 ⟨Ag, ng, cg, rfl, hnum, hb⟩
  replace E := Lib.hid (E.out.push hb hnum)
  clear hb hnum
  have hSw : (fun v : World => v.cell? ⟨w.heap.size, 0, none⟩ = some (.bool (ngB i)) ∧ v.cell? ⟨w.heap.size, 1, none⟩ = some (.slice A1 n1 c1) ∧ v.cell? ⟨w.heap.size, 2, none⟩ = some (.int .i64 (s : Int)) ∧ v.cell? ⟨w.heap.size + 1, 0, none⟩ = some (.bool (ngB j)) ∧ v.cell? ⟨w.heap.size + 1, 1, none⟩ = some (.slice A2 n2 c2) ∧ v.cell? ⟨w.heap.size + 1, 2, none⟩ = some (.int .i64 (t : Int)) ∧ v.cell? ⟨w.heap.size + 1 + 1, 0, none⟩ = some (.bool (ngB l)) ∧ v.cell? ⟨w.heap.size + 1 + 1, 1, none⟩ = some (.slice A3 n3 c3) ∧ v.cell? ⟨w.heap.size + 1 + 1, 2, none⟩ = some (.int .i64 (u : Int)) ∧ v.cell? ⟨ga, 0, none⟩ = some (.bool (ngB ra.1)) ∧ v.cell? ⟨ga, 1, none⟩ = some (.slice Aa na ca) ∧ v.cell? ⟨ga, 2, none⟩ = some (.int .i64 (ra.2.1 : Int)) ∧ v.cell? ⟨gc, 0, none⟩ = some (.bool (ngB rc.1)) ∧ v.cell? ⟨gc, 1, none⟩ = some (.slice Ac nc cc) ∧ v.cell? ⟨gc, 2, none⟩ = some (.int .i64 (rc.2.1 : Int)) ∧ v.cell? ⟨gd, 0, none⟩ = some (.bool (ngB rd.1)) ∧ v.cell? ⟨gd, 1, none⟩ = some (.slice Ad nd cd) ∧ v.cell? ⟨gd, 2, none⟩ = some (.int .i64 (rd.2.1 : Int))) y7 := ⟨(St.at_ (x0 := .bool (ngB i)) (x1 := .slice A1 n1 c1) (x2 := .int .i64 (s : Int)) (g := w.heap.size) E (by simp)).c0, (St.at_ (x0 := .bool (ngB i)) (x1 := .slice A1 n1 c1) (x2 := .int .i64 (s : Int)) (g := w.heap.size) E (by simp)).c1, (St.at_ (x0 := .bool (ngB i)) (x1 := .slice A1 n1 c1) (x2 := .int .i64 (s : Int)) (g := w.heap.size) E (by simp)).c2, (St.at_ (x0 := .bool (ngB j)) (x1 := .slice A2 n2 c2) (x2 := .int .i64 (t : Int)) (g := w.heap.size + 1) E (by simp)).c0, (St.at_ (x0 := .bool (ngB j)) (x1 := .slice A2 n2 c2) (x2 := .int .i64 (t : Int)) (g := w.heap.size + 1) E (by simp)).c1, (St.at_ (x0 := .bool (ngB j)) (x1 := .slice A2 n2 c2) (x2 := .int .i64 (t : Int)) (g := w.heap.size + 1) E (by simp)).c2, (St.at_ (x0 := .bool (ngB l)) (x1 := .slice A3 n3 c3) (x2 := .int .i64 (u : Int)) (g := w.heap.size + 1 + 1) E (by simp)).c0, (St.at_ (x0 := .bool (ngB l)) (x1 := .slice A3 n3 c3) (x2 := .int .i64 (u : Int)) (g := w.heap.size + 1 + 1) E (by simp)).c1, (St.at_ (x0 := .bool (ngB l)) (x1 := .slice A3 n3 c3) (x2 := .int .i64 (u : Int)) (g := w.heap.size + 1 + 1) E (by simp)).c2, (St.at_ (x0 := .bool (ngB ra.1)) (x1 := .slice Aa na ca) (x2 := .int .i64 (ra.2.1 : Int)) (g := ga) E (by simp)).c0, (St.at_ (x0 := .bool (ngB ra.1)) (x1 := .slice Aa na ca) (x2 := .int .i64 (ra.2.1 : Int)) (g := ga) E (by simp)).c1, (St.at_ (x0 := .bool (ngB ra.1)) (x1 := .slice Aa na ca) (x2 := .int .i64 (ra.2.1 : Int)) (g := ga) E (by simp)).c2, (St.at_ (x0 := .bool (ngB rc.1)) (x1 := .slice Ac nc cc) (x2 := .int .i64 (rc.2.1 : Int)) (g := gc) E (by simp)).c0, (St.at_ (x0 := .bool (ngB rc.1)) (x1 := .slice Ac nc cc) (x2 := .int .i64 (rc.2.1 : Int)) (g := gc) E (by simp)).c1, (St.at_ (x0 := .bool (ngB rc.1)) (x1 := .slice Ac nc cc) (x2 := .int .i64 (rc.2.1 : Int)) (g := gc) E (by simp)).c2, (St.at_ (x0 := .bool (ngB rd.1)) (x1 := .slice Ad nd cd) (x2 := .int .i64 (rd.2.1 : Int)) (g := gd) E (by simp)).c0, (St.at_ (x0 := .bool (ngB rd.1)) (x1 := .slice Ad nd cd) (x2 := .int .i64 (rd.2.1 : Int)) (g := gd) E (by simp)).c1, (St.at_ (x0 := .bool (ngB rd.1)) (x1 := .slice Ad nd cd) (x2 := .int .i64 (rd.2.1 : Int)) (g := gd) E (by simp)).c2⟩
  refine ⟨_, rfl, hSw, ?_⟩; intro a ha
  refine line_call vvzR 49 49 [] 127 (args := #[.agg #[.bool (ngB rc.1), .slice Ac nc cc, .int .i64 (rc.2.1 : Int)], .agg #[.bool (ngB xb), .slice Ag ng cg, .int .i64 (kb : Int)]]) [(120, .bool true), (3, .pointer (some ⟨w.heap.size, 0, none⟩)), (4, .pointer (some ⟨w.heap.size + 1, 0, none⟩)), (5, .pointer (some ⟨w.heap.size + 1 + 1, 0, none⟩)), (16, .pointer (some ⟨gd, 0, none⟩)), (18, .int .i64 0)] rfl (by decide) (by decide) (by decide) ha (fun o ho hg => ⟨(vvzR.wanted hg rfl ha (d := 120) (by simp)), e_call13 (by kernel_rfl) ho rfl (by have q0 := ha.ev (i := 121) (v := .agg #[.bool (ngB rc.1), .slice Ac nc cc, .int .i64 (rc.2.1 : Int)]) (by simp); have q1 := ha.ev (i := 126) (v := .agg #[.bool (ngB xb), .slice Ag ng cg, .int .i64 (kb : Int)]) (by simp); simp only [List.map_toArray, List.map_cons, List.map_nil, ev_const, q0, q1])⟩) (by simp) ?_
  refine (alike_is5 (i := rc.1) (j := xb) (s := rc.2.1) (t := kb) (St.got E (A := Ac) (n := nc) (c := cc) (a := (rc.1).natAbs) (by simp)) (St.got E (A := Ag) (n := ng) (c := cg) (a := (xb).natAbs) (by simp)) (b := true) KB.out).mono ?_; rintro e y8 ⟨rfl, hb⟩
  replace E := Lib.hid (E.out.step hb)
  clear hb
  have hSw : (fun v : World => v.cell? ⟨w.heap.size, 0, none⟩ = some (.bool (ngB i)) ∧ v.cell? ⟨w.heap.size, 1, none⟩ = some (.slice A1 n1 c1) ∧ v.cell? ⟨w.heap.size, 2, none⟩ = some (.int .i64 (s : Int)) ∧ v.cell? ⟨w.heap.size + 1, 0, none⟩ = some (.bool (ngB j)) ∧ v.cell? ⟨w.heap.size + 1, 1, none⟩ = some (.slice A2 n2 c2) ∧ v.cell? ⟨w.heap.size + 1, 2, none⟩ = some (.int .i64 (t : Int)) ∧ v.cell? ⟨w.heap.size + 1 + 1, 0, none⟩ = some (.bool (ngB l)) ∧ v.cell? ⟨w.heap.size + 1 + 1, 1, none⟩ = some (.slice A3 n3 c3) ∧ v.cell? ⟨w.heap.size + 1 + 1, 2, none⟩ = some (.int .i64 (u : Int)) ∧ v.cell? ⟨ga, 0, none⟩ = some (.bool (ngB ra.1)) ∧ v.cell? ⟨ga, 1, none⟩ = some (.slice Aa na ca) ∧ v.cell? ⟨ga, 2, none⟩ = some (.int .i64 (ra.2.1 : Int)) ∧ v.cell? ⟨gc, 0, none⟩ = some (.bool (ngB rc.1)) ∧ v.cell? ⟨gc, 1, none⟩ = some (.slice Ac nc cc) ∧ v.cell? ⟨gc, 2, none⟩ = some (.int .i64 (rc.2.1 : Int)) ∧ v.cell? ⟨gd, 0, none⟩ = some (.bool (ngB rd.1)) ∧ v.cell? ⟨gd, 1, none⟩ = some (.slice Ad nd cd) ∧ v.cell? ⟨gd, 2, none⟩ = some (.int .i64 (rd.2.1 : Int))) y8 := ⟨(St.at_ (x0 := .bool (ngB i)) (x1 := .slice A1 n1 c1) (x2 := .int .i64 (s : Int)) (g := w.heap.size) E (by simp)).c0, (St.at_ (x0 := .bool (ngB i)) (x1 := .slice A1 n1 c1) (x2 := .int .i64 (s : Int)) (g := w.heap.size) E (by simp)).c1, (St.at_ (x0 := .bool (ngB i)) (x1 := .slice A1 n1 c1) (x2 := .int .i64 (s : Int)) (g := w.heap.size) E (by simp)).c2, (St.at_ (x0 := .bool (ngB j)) (x1 := .slice A2 n2 c2) (x2 := .int .i64 (t : Int)) (g := w.heap.size + 1) E (by simp)).c0, (St.at_ (x0 := .bool (ngB j)) (x1 := .slice A2 n2 c2) (x2 := .int .i64 (t : Int)) (g := w.heap.size + 1) E (by simp)).c1, (St.at_ (x0 := .bool (ngB j)) (x1 := .slice A2 n2 c2) (x2 := .int .i64 (t : Int)) (g := w.heap.size + 1) E (by simp)).c2, (St.at_ (x0 := .bool (ngB l)) (x1 := .slice A3 n3 c3) (x2 := .int .i64 (u : Int)) (g := w.heap.size + 1 + 1) E (by simp)).c0, (St.at_ (x0 := .bool (ngB l)) (x1 := .slice A3 n3 c3) (x2 := .int .i64 (u : Int)) (g := w.heap.size + 1 + 1) E (by simp)).c1, (St.at_ (x0 := .bool (ngB l)) (x1 := .slice A3 n3 c3) (x2 := .int .i64 (u : Int)) (g := w.heap.size + 1 + 1) E (by simp)).c2, (St.at_ (x0 := .bool (ngB ra.1)) (x1 := .slice Aa na ca) (x2 := .int .i64 (ra.2.1 : Int)) (g := ga) E (by simp)).c0, (St.at_ (x0 := .bool (ngB ra.1)) (x1 := .slice Aa na ca) (x2 := .int .i64 (ra.2.1 : Int)) (g := ga) E (by simp)).c1, (St.at_ (x0 := .bool (ngB ra.1)) (x1 := .slice Aa na ca) (x2 := .int .i64 (ra.2.1 : Int)) (g := ga) E (by simp)).c2, (St.at_ (x0 := .bool (ngB rc.1)) (x1 := .slice Ac nc cc) (x2 := .int .i64 (rc.2.1 : Int)) (g := gc) E (by simp)).c0, (St.at_ (x0 := .bool (ngB rc.1)) (x1 := .slice Ac nc cc) (x2 := .int .i64 (rc.2.1 : Int)) (g := gc) E (by simp)).c1, (St.at_ (x0 := .bool (ngB rc.1)) (x1 := .slice Ac nc cc) (x2 := .int .i64 (rc.2.1 : Int)) (g := gc) E (by simp)).c2, (St.at_ (x0 := .bool (ngB rd.1)) (x1 := .slice Ad nd cd) (x2 := .int .i64 (rd.2.1 : Int)) (g := gd) E (by simp)).c0, (St.at_ (x0 := .bool (ngB rd.1)) (x1 := .slice Ad nd cd) (x2 := .int .i64 (rd.2.1 : Int)) (g := gd) E (by simp)).c1, (St.at_ (x0 := .bool (ngB rd.1)) (x1 := .slice Ad nd cd) (x2 := .int .i64 (rd.2.1 : Int)) (g := gd) E (by simp)).c2⟩
  refine ⟨_, rfl, hSw, ?_⟩; intro a ha
  refine line_still vvzR 50 50 [] 128 (.bool true) [(3, .pointer (some ⟨w.heap.size, 0, none⟩)), (4, .pointer (some ⟨w.heap.size + 1, 0, none⟩)), (5, .pointer (some ⟨w.heap.size + 1 + 1, 0, none⟩)), (16, .pointer (some ⟨gd, 0, none⟩)), (18, .int .i64 0)] rfl (by decide) (by decide) (by decide) ha (fun o ho hg => y_of (wanted_none hg) (fun wx hS => e_pick ho (ha.ev (i := 120) (v := .bool true) (by simp)) (ha.ev (i := 127) (v := .bool true) (by simp)) rfl)) (by simp) hSw ?_; intro a ha
  refine line_still vvzR 51 51 [] 129 (.bool true) [(3, .pointer (some ⟨w.heap.size, 0, none⟩)), (4, .pointer (some ⟨w.heap.size + 1, 0, none⟩)), (5, .pointer (some ⟨w.heap.size + 1 + 1, 0, none⟩)), (16, .pointer (some ⟨gd, 0, none⟩)), (18, .int .i64 0)] rfl (by decide) (by decide) (by decide) ha (fun o ho hg => y_of (wanted_none hg) (fun wx hS => e_move (.inl ho) (ha.ev (i := 128) (v := .bool true) (by simp)))) (by simp) hSw ?_; intro a ha
  refine line_still vvzR 52 52 [] 130 (.int .i64 0) [(129, .bool true), (3, .pointer (some ⟨w.heap.size, 0, none⟩)), (4, .pointer (some ⟨w.heap.size + 1, 0, none⟩)), (5, .pointer (some ⟨w.heap.size + 1 + 1, 0, none⟩)), (16, .pointer (some ⟨gd, 0, none⟩))] rfl (by decide) (by decide) (by decide) ha (fun o ho hg => y_of (vvzR.wanted hg rfl ha (d := 129) (by simp)) (fun wx hS => e_move (.inl ho) (ha.ev (i := 18) (v := .int .i64 0) (by simp)))) (by simp) hSw ?_; intro a ha
  refine line_still vvzR 53 53 [] 131 (.bool true) [(129, .bool true), (3, .pointer (some ⟨w.heap.size, 0, none⟩)), (4, .pointer (some ⟨w.heap.size + 1, 0, none⟩)), (5, .pointer (some ⟨w.heap.size + 1 + 1, 0, none⟩)), (16, .pointer (some ⟨gd, 0, none⟩))] rfl (by decide) (by decide) (by decide) ha (fun o ho hg => y_of (vvzR.wanted hg rfl ha (d := 129) (by simp)) (fun wx hS => e_eq13 (by decide) ho (ha.ev (i := 130) (v := .int .i64 0) (by simp)) rfl)) (by simp) hSw ?_; intro a ha
  refine line_still vvzR 54 54 [] 132 (.bool true) [(3, .pointer (some ⟨w.heap.size, 0, none⟩)), (4, .pointer (some ⟨w.heap.size + 1, 0, none⟩)), (5, .pointer (some ⟨w.heap.size + 1 + 1, 0, none⟩)), (16, .pointer (some ⟨gd, 0, none⟩))] rfl (by decide) (by decide) (by decide) ha (fun o ho hg => y_of (wanted_none hg) (fun wx hS => e_pick ho (ha.ev (i := 129) (v := .bool true) (by simp)) (ha.ev (i := 131) (v := .bool true) (by simp)) rfl)) (by simp) hSw ?_; intro a ha
  refine line_still vvzR 55 55 [] 133 (.bool true) [(3, .pointer (some ⟨w.heap.size, 0, none⟩)), (4, .pointer (some ⟨w.heap.size + 1, 0, none⟩)), (5, .pointer (some ⟨w.heap.size + 1 + 1, 0, none⟩)), (16, .pointer (some ⟨gd, 0, none⟩))] rfl (by decide) (by decide) (by decide) ha (fun o ho hg => y_of (wanted_none hg) (fun wx hS => e_move (.inl ho) (ha.ev (i := 132) (v := .bool true) (by simp)))) (by simp) hSw ?_; intro a ha
  refine line_still vvzR 56 56 [] 134 (.agg #[.bool (ngB rd.1), .slice Ad nd cd, .int .i64 (rd.2.1 : Int)]) [(133, .bool true), (3, .pointer (some ⟨w.heap.size, 0, none⟩)), (4, .pointer (some ⟨w.heap.size + 1, 0, none⟩)), (5, .pointer (some ⟨w.heap.size + 1 + 1, 0, none⟩))] rfl (by decide) (by decide) (by decide) ha (fun o ho hg => y_of (vvzR.wanted hg rfl ha (d := 133) (by simp)) (fun wx hS => e_loadD13 ho (ha.ev (i := 16) (v := .pointer (some ⟨gd, 0, none⟩)) (by simp)) (hS.2.2.2.2.2.2.2.2.2.2.2.2.2.2.2.1) (hS.2.2.2.2.2.2.2.2.2.2.2.2.2.2.2.2.1) (hS.2.2.2.2.2.2.2.2.2.2.2.2.2.2.2.2.2))) (by simp) hSw ?_; intro a ha
  refine line_still vvzR 57 57 [] 135 (.agg #[.bool (ngB i), .slice A1 n1 c1, .int .i64 (s : Int)]) [(134, .agg #[.bool (ngB rd.1), .slice Ad nd cd, .int .i64 (rd.2.1 : Int)]), (133, .bool true), (4, .pointer (some ⟨w.heap.size + 1, 0, none⟩)), (5, .pointer (some ⟨w.heap.size + 1 + 1, 0, none⟩))] rfl (by decide) (by decide) (by decide) ha (fun o ho hg => y_of (vvzR.wanted hg rfl ha (d := 133) (by simp)) (fun wx hS => e_loadD13 ho (ha.ev (i := 3) (v := .pointer (some ⟨w.heap.size, 0, none⟩)) (by simp)) (hS.1) (hS.2.1) (hS.2.2.1))) (by simp) hSw ?_; intro a ha
  refine line_still vvzR 58 58 [] 136 (.agg #[.bool (ngB j), .slice A2 n2 c2, .int .i64 (t : Int)]) [(135, .agg #[.bool (ngB i), .slice A1 n1 c1, .int .i64 (s : Int)]), (134, .agg #[.bool (ngB rd.1), .slice Ad nd cd, .int .i64 (rd.2.1 : Int)]), (133, .bool true), (5, .pointer (some ⟨w.heap.size + 1 + 1, 0, none⟩))] rfl (by decide) (by decide) (by decide) ha (fun o ho hg => y_of (vvzR.wanted hg rfl ha (d := 133) (by simp)) (fun wx hS => e_loadD13 ho (ha.ev (i := 4) (v := .pointer (some ⟨w.heap.size + 1, 0, none⟩)) (by simp)) (hS.2.2.2.1) (hS.2.2.2.2.1) (hS.2.2.2.2.2.1))) (by simp) hSw ?_; intro a ha
  refine line_ahead vvzR 59 59 [] 60 138 (.agg #[.bool (ngB l), .slice A3 n3 c3, .int .i64 (u : Int)]) [(136, .agg #[.bool (ngB j), .slice A2 n2 c2, .int .i64 (t : Int)]), (135, .agg #[.bool (ngB i), .slice A1 n1 c1, .int .i64 (s : Int)]), (134, .agg #[.bool (ngB rd.1), .slice Ad nd cd, .int .i64 (rd.2.1 : Int)]), (133, .bool true)] rfl (by decide) (by decide) (by decide) ha (fun o ho hg => y_of (vvzR.wanted hg rfl ha (d := 133) (by simp)) (fun wx hS => e_loadD13 ho (ha.ev (i := 5) (v := .pointer (some ⟨w.heap.size + 1 + 1, 0, none⟩)) (by simp)) (hS.2.2.2.2.2.2.1) (hS.2.2.2.2.2.2.2.1) (hS.2.2.2.2.2.2.2.2.1))) (by simp) hSw ?_; intro a ha
  refine line_call vvzR 60 59 [60] 137 (args := #[.agg #[.bool (ngB i), .slice A1 n1 c1, .int .i64 (s : Int)], .agg #[.bool (ngB j), .slice A2 n2 c2, .int .i64 (t : Int)]]) [(138, .agg #[.bool (ngB l), .slice A3 n3 c3, .int .i64 (u : Int)]), (134, .agg #[.bool (ngB rd.1), .slice Ad nd cd, .int .i64 (rd.2.1 : Int)]), (133, .bool true)] rfl (by decide) (by decide) (by decide) ha (fun o ho hg => ⟨(vvzR.wanted hg rfl ha (d := 133) (by simp)), e_call13 (by kernel_rfl) ho rfl (by have q0 := ha.ev (i := 135) (v := .agg #[.bool (ngB i), .slice A1 n1 c1, .int .i64 (s : Int)]) (by simp); have q1 := ha.ev (i := 136) (v := .agg #[.bool (ngB j), .slice A2 n2 c2, .int .i64 (t : Int)]) (by simp); simp only [List.map_toArray, List.map_cons, List.map_nil, ev_const, q0, q1])⟩) (by simp) ?_
  refine (sub_is5 (i := i) (j := j) (s := s) (t := t) (St.got E (A := A1) (n := n1) (c := c1) (a := (i).natAbs) (by simp)) (St.got E (A := A2) (n := n2) (c := c2) (a := (j).natAbs) (by simp)) (by omega) (by omega) (by omega) (by omega) HKb1.out HXc1.out).mono ?_; rintro e y9 ⟨Ah, nh, ch, rfl, hnum, hb⟩
  have hnnh : nh ≤ 1000 := by have h5 := hnum.len; have h6 := BC.out; omega
  replace E := Lib.hid (E.out.push hb hnum)
  clear hb hnum
  have hSw : (fun v : World => v.cell? ⟨w.heap.size, 0, none⟩ = some (.bool (ngB i)) ∧ v.cell? ⟨w.heap.size, 1, none⟩ = some (.slice A1 n1 c1) ∧ v.cell? ⟨w.heap.size, 2, none⟩ = some (.int .i64 (s : Int)) ∧ v.cell? ⟨w.heap.size + 1, 0, none⟩ = some (.bool (ngB j)) ∧ v.cell? ⟨w.heap.size + 1, 1, none⟩ = some (.slice A2 n2 c2) ∧ v.cell? ⟨w.heap.size + 1, 2, none⟩ = some (.int .i64 (t : Int)) ∧ v.cell? ⟨w.heap.size + 1 + 1, 0, none⟩ = some (.bool (ngB l)) ∧ v.cell? ⟨w.heap.size + 1 + 1, 1, none⟩ = some (.slice A3 n3 c3) ∧ v.cell? ⟨w.heap.size + 1 + 1, 2, none⟩ = some (.int .i64 (u : Int)) ∧ v.cell? ⟨ga, 0, none⟩ = some (.bool (ngB ra.1)) ∧ v.cell? ⟨ga, 1, none⟩ = some (.slice Aa na ca) ∧ v.cell? ⟨ga, 2, none⟩ = some (.int .i64 (ra.2.1 : Int)) ∧ v.cell? ⟨gc, 0, none⟩ = some (.bool (ngB rc.1)) ∧ v.cell? ⟨gc, 1, none⟩ = some (.slice Ac nc cc) ∧ v.cell? ⟨gc, 2, none⟩ = some (.int .i64 (rc.2.1 : Int)) ∧ v.cell? ⟨gd, 0, none⟩ = some (.bool (ngB rd.1)) ∧ v.cell? ⟨gd, 1, none⟩ = some (.slice Ad nd cd) ∧ v.cell? ⟨gd, 2, none⟩ = some (.int .i64 (rd.2.1 : Int))) y9 := ⟨(St.at_ (x0 := .bool (ngB i)) (x1 := .slice A1 n1 c1) (x2 := .int .i64 (s : Int)) (g := w.heap.size) E (by simp)).c0, (St.at_ (x0 := .bool (ngB i)) (x1 := .slice A1 n1 c1) (x2 := .int .i64 (s : Int)) (g := w.heap.size) E (by simp)).c1, (St.at_ (x0 := .bool (ngB i)) (x1 := .slice A1 n1 c1) (x2 := .int .i64 (s : Int)) (g := w.heap.size) E (by simp)).c2, (St.at_ (x0 := .bool (ngB j)) (x1 := .slice A2 n2 c2) (x2 := .int .i64 (t : Int)) (g := w.heap.size + 1) E (by simp)).c0, (St.at_ (x0 := .bool (ngB j)) (x1 := .slice A2 n2 c2) (x2 := .int .i64 (t : Int)) (g := w.heap.size + 1) E (by simp)).c1, (St.at_ (x0 := .bool (ngB j)) (x1 := .slice A2 n2 c2) (x2 := .int .i64 (t : Int)) (g := w.heap.size + 1) E (by simp)).c2, (St.at_ (x0 := .bool (ngB l)) (x1 := .slice A3 n3 c3) (x2 := .int .i64 (u : Int)) (g := w.heap.size + 1 + 1) E (by simp)).c0, (St.at_ (x0 := .bool (ngB l)) (x1 := .slice A3 n3 c3) (x2 := .int .i64 (u : Int)) (g := w.heap.size + 1 + 1) E (by simp)).c1, (St.at_ (x0 := .bool (ngB l)) (x1 := .slice A3 n3 c3) (x2 := .int .i64 (u : Int)) (g := w.heap.size + 1 + 1) E (by simp)).c2, (St.at_ (x0 := .bool (ngB ra.1)) (x1 := .slice Aa na ca) (x2 := .int .i64 (ra.2.1 : Int)) (g := ga) E (by simp)).c0, (St.at_ (x0 := .bool (ngB ra.1)) (x1 := .slice Aa na ca) (x2 := .int .i64 (ra.2.1 : Int)) (g := ga) E (by simp)).c1, (St.at_ (x0 := .bool (ngB ra.1)) (x1 := .slice Aa na ca) (x2 := .int .i64 (ra.2.1 : Int)) (g := ga) E (by simp)).c2, (St.at_ (x0 := .bool (ngB rc.1)) (x1 := .slice Ac nc cc) (x2 := .int .i64 (rc.2.1 : Int)) (g := gc) E (by simp)).c0, (St.at_ (x0 := .bool (ngB rc.1)) (x1 := .slice Ac nc cc) (x2 := .int .i64 (rc.2.1 : Int)) (g := gc) E (by simp)).c1, (St.at_ (x0 := .bool (ngB rc.1)) (x1 := .slice Ac nc cc) (x2 := .int .i64 (rc.2.1 : Int)) (g := gc) E (by simp)).c2, (St.at_ (x0 := .bool (ngB rd.1)) (x1 := .slice Ad nd cd) (x2 := .int .i64 (rd.2.1 : Int)) (g := gd) E (by simp)).c0, (St.at_ (x0 := .bool (ngB rd.1)) (x1 := .slice Ad nd cd) (x2 := .int .i64 (rd.2.1 : Int)) (g := gd) E (by simp)).c1, (St.at_ (x0 := .bool (ngB rd.1)) (x1 := .slice Ad nd cd) (x2 := .int .i64 (rd.2.1 : Int)) (g := gd) E (by simp)).c2⟩
  refine ⟨_, rfl, hSw, ?_⟩; intro a ha
  refine line_skip [] (by intro i; simp <;> omega) ?_
  refine line_call vvzR 61 61 [] 139 (args := #[.agg #[.bool (ngB xc1), .slice Ah nh ch, .int .i64 (kb1 : Int)], .agg #[.bool (ngB l), .slice A3 n3 c3, .int .i64 (u : Int)]]) [(134, .agg #[.bool (ngB rd.1), .slice Ad nd cd, .int .i64 (rd.2.1 : Int)]), (133, .bool true)] rfl (by decide) (by decide) (by decide) ha (fun o ho hg => ⟨(vvzR.wanted hg rfl ha (d := 133) (by simp)), e_call13 (by kernel_rfl) ho rfl (by have q0 := ha.ev (i := 137) (v := .agg #[.bool (ngB xc1), .slice Ah nh ch, .int .i64 (kb1 : Int)]) (by simp); have q1 := ha.ev (i := 138) (v := .agg #[.bool (ngB l), .slice A3 n3 c3, .int .i64 (u : Int)]) (by simp); simp only [List.map_toArray, List.map_cons, List.map_nil, ev_const, q0, q1])⟩) (by simp) ?_
  refine (sub_is5 (i := xc1) (j := l) (s := kb1) (t := u) (St.got E (A := Ah) (n := nh) (c := ch) (a := (xc1).natAbs) (by simp)) (St.got E (A := A3) (n := n3) (c := c3) (a := (l).natAbs) (by simp)) (by omega) (by omega) (by omega) (by omega) HKc.out HXc.out).mono ?_; rintro e y10 ⟨Ai, ni, ci, rfl, hnum, hb⟩
  replace E := Lib.hid (E.out.push hb hnum)
  clear hb hnum
  have hSw : (fun v : World => v.cell? ⟨w.heap.size, 0, none⟩ = some (.bool (ngB i)) ∧ v.cell? ⟨w.heap.size, 1, none⟩ = some (.slice A1 n1 c1) ∧ v.cell? ⟨w.heap.size, 2, none⟩ = some (.int .i64 (s : Int)) ∧ v.cell? ⟨w.heap.size + 1, 0, none⟩ = some (.bool (ngB j)) ∧ v.cell? ⟨w.heap.size + 1, 1, none⟩ = some (.slice A2 n2 c2) ∧ v.cell? ⟨w.heap.size + 1, 2, none⟩ = some (.int .i64 (t : Int)) ∧ v.cell? ⟨w.heap.size + 1 + 1, 0, none⟩ = some (.bool (ngB l)) ∧ v.cell? ⟨w.heap.size + 1 + 1, 1, none⟩ = some (.slice A3 n3 c3) ∧ v.cell? ⟨w.heap.size + 1 + 1, 2, none⟩ = some (.int .i64 (u : Int)) ∧ v.cell? ⟨ga, 0, none⟩ = some (.bool (ngB ra.1)) ∧ v.cell? ⟨ga, 1, none⟩ = some (.slice Aa na ca) ∧ v.cell? ⟨ga, 2, none⟩ = some (.int .i64 (ra.2.1 : Int)) ∧ v.cell? ⟨gc, 0, none⟩ = some (.bool (ngB rc.1)) ∧ v.cell? ⟨gc, 1, none⟩ = some (.slice Ac nc cc) ∧ v.cell? ⟨gc, 2, none⟩ = some (.int .i64 (rc.2.1 : Int)) ∧ v.cell? ⟨gd, 0, none⟩ = some (.bool (ngB rd.1)) ∧ v.cell? ⟨gd, 1, none⟩ = some (.slice Ad nd cd) ∧ v.cell? ⟨gd, 2, none⟩ = some (.int .i64 (rd.2.1 : Int))) y10 := ⟨(St.at_ (x0 := .bool (ngB i)) (x1 := .slice A1 n1 c1) (x2 := .int .i64 (s : Int)) (g := w.heap.size) E (by simp)).c0, (St.at_ (x0 := .bool (ngB i)) (x1 := .slice A1 n1 c1) (x2 := .int .i64 (s : Int)) (g := w.heap.size) E (by simp)).c1, (St.at_ (x0 := .bool (ngB i)) (x1 := .slice A1 n1 c1) (x2 := .int .i64 (s : Int)) (g := w.heap.size) E (by simp)).c2, (St.at_ (x0 := .bool (ngB j)) (x1 := .slice A2 n2 c2) (x2 := .int .i64 (t : Int)) (g := w.heap.size + 1) E (by simp)).c0, (St.at_ (x0 := .bool (ngB j)) (x1 := .slice A2 n2 c2) (x2 := .int .i64 (t : Int)) (g := w.heap.size + 1) E (by simp)).c1, (St.at_ (x0 := .bool (ngB j)) (x1 := .slice A2 n2 c2) (x2 := .int .i64 (t : Int)) (g := w.heap.size + 1) E (by simp)).c2, (St.at_ (x0 := .bool (ngB l)) (x1 := .slice A3 n3 c3) (x2 := .int .i64 (u : Int)) (g := w.heap.size + 1 + 1) E (by simp)).c0, (St.at_ (x0 := .bool (ngB l)) (x1 := .slice A3 n3 c3) (x2 := .int .i64 (u : Int)) (g := w.heap.size + 1 + 1) E (by simp)).c1, (St.at_ (x0 := .bool (ngB l)) (x1 := .slice A3 n3 c3) (x2 := .int .i64 (u : Int)) (g := w.heap.size + 1 + 1) E (by simp)).c2, (St.at_ (x0 := .bool (ngB ra.1)) (x1 := .slice Aa na ca) (x2 := .int .i64 (ra.2.1 : Int)) (g := ga) E (by simp)).c0, (St.at_ (x0 := .bool (ngB ra.1)) (x1 := .slice Aa na ca) (x2 := .int .i64 (ra.2.1 : Int)) (g := ga) E (by simp)).c1, (St.at_ (x0 := .bool (ngB ra.1)) (x1 := .slice Aa na ca) (x2 := .int .i64 (ra.2.1 : Int)) (g := ga) E (by simp)).c2, (St.at_ (x0 := .bool (ngB rc.1)) (x1 := .slice Ac nc cc) (x2 := .int .i64 (rc.2.1 : Int)) (g := gc) E (by simp)).c0, (St.at_ (x0 := .bool (ngB rc.1)) (x1 := .slice Ac nc cc) (x2 := .int .i64 (rc.2.1 : Int)) (g := gc) E (by simp)).c1, (St.at_ (x0 := .bool (ngB rc.1)) (x1 := .slice Ac nc cc) (x2 := .int .i64 (rc.2.1 : Int)) (g := gc) E (by simp)).c2, (St.at_ (x0 := .bool (ngB rd.1)) (x1 := .slice Ad nd cd) (x2 := .int .i64 (rd.2.1 : Int)) (g := gd) E (by simp)).c0, (St.at_ (x0 := .bool (ngB rd.1)) (x1 := .slice Ad nd cd) (x2 := .int .i64 (rd.2.1 : Int)) (g := gd) E (by simp)).c1, (St.at_ (x0 := .bool (ngB rd.1)) (x1 := .slice Ad nd cd) (x2 := .int .i64 (rd.2.1 : Int)) (g := gd) E (by simp)).c2⟩
  refine ⟨_, rfl, hSw, ?_⟩; intro a ha
  refine line_call vvzR 62 62 [] 140 (args := #[.agg #[.bool (ngB rd.1), .slice Ad nd cd, .int .i64 (rd.2.1 : Int)], .agg #[.bool (ngB xc), .slice Ai ni ci, .int .i64 (kc : Int)]]) [(133, .bool true)] rfl (by decide) (by decide) (by decide) ha (fun o ho hg => ⟨(vvzR.wanted hg rfl ha (d := 133) (by simp)), e_call13 (by kernel_rfl) ho rfl (by have q0 := ha.ev (i := 134) (v := .agg #[.bool (ngB rd.1), .slice Ad nd cd, .int .i64 (rd.2.1 : Int)]) (by simp); have q1 := ha.ev (i := 139) (v := .agg #[.bool (ngB xc), .slice Ai ni ci, .int .i64 (kc : Int)]) (by simp); simp only [List.map_toArray, List.map_cons, List.map_nil, ev_const, q0, q1])⟩) (by simp) ?_
  refine (alike_is5 (i := rd.1) (j := xc) (s := rd.2.1) (t := kc) (St.got E (A := Ad) (n := nd) (c := cd) (a := (rd.1).natAbs) (by simp)) (St.got E (A := Ai) (n := ni) (c := ci) (a := (xc).natAbs) (by simp)) (b := true) KC.out).mono ?_; rintro e y11 ⟨rfl, hb⟩
  replace E := Lib.hid (E.out.step hb)
  clear hb
  have hSw : (fun v : World => v.cell? ⟨w.heap.size, 0, none⟩ = some (.bool (ngB i)) ∧ v.cell? ⟨w.heap.size, 1, none⟩ = some (.slice A1 n1 c1) ∧ v.cell? ⟨w.heap.size, 2, none⟩ = some (.int .i64 (s : Int)) ∧ v.cell? ⟨w.heap.size + 1, 0, none⟩ = some (.bool (ngB j)) ∧ v.cell? ⟨w.heap.size + 1, 1, none⟩ = some (.slice A2 n2 c2) ∧ v.cell? ⟨w.heap.size + 1, 2, none⟩ = some (.int .i64 (t : Int)) ∧ v.cell? ⟨w.heap.size + 1 + 1, 0, none⟩ = some (.bool (ngB l)) ∧ v.cell? ⟨w.heap.size + 1 + 1, 1, none⟩ = some (.slice A3 n3 c3) ∧ v.cell? ⟨w.heap.size + 1 + 1, 2, none⟩ = some (.int .i64 (u : Int)) ∧ v.cell? ⟨ga, 0, none⟩ = some (.bool (ngB ra.1)) ∧ v.cell? ⟨ga, 1, none⟩ = some (.slice Aa na ca) ∧ v.cell? ⟨ga, 2, none⟩ = some (.int .i64 (ra.2.1 : Int)) ∧ v.cell? ⟨gc, 0, none⟩ = some (.bool (ngB rc.1)) ∧ v.cell? ⟨gc, 1, none⟩ = some (.slice Ac nc cc) ∧ v.cell? ⟨gc, 2, none⟩ = some (.int .i64 (rc.2.1 : Int)) ∧ v.cell? ⟨gd, 0, none⟩ = some (.bool (ngB rd.1)) ∧ v.cell? ⟨gd, 1, none⟩ = some (.slice Ad nd cd) ∧ v.cell? ⟨gd, 2, none⟩ = some (.int .i64 (rd.2.1 : Int))) y11 := ⟨(St.at_ (x0 := .bool (ngB i)) (x1 := .slice A1 n1 c1) (x2 := .int .i64 (s : Int)) (g := w.heap.size) E (by simp)).c0, (St.at_ (x0 := .bool (ngB i)) (x1 := .slice A1 n1 c1) (x2 := .int .i64 (s : Int)) (g := w.heap.size) E (by simp)).c1, (St.at_ (x0 := .bool (ngB i)) (x1 := .slice A1 n1 c1) (x2 := .int .i64 (s : Int)) (g := w.heap.size) E (by simp)).c2, (St.at_ (x0 := .bool (ngB j)) (x1 := .slice A2 n2 c2) (x2 := .int .i64 (t : Int)) (g := w.heap.size + 1) E (by simp)).c0, (St.at_ (x0 := .bool (ngB j)) (x1 := .slice A2 n2 c2) (x2 := .int .i64 (t : Int)) (g := w.heap.size + 1) E (by simp)).c1, (St.at_ (x0 := .bool (ngB j)) (x1 := .slice A2 n2 c2) (x2 := .int .i64 (t : Int)) (g := w.heap.size + 1) E (by simp)).c2, (St.at_ (x0 := .bool (ngB l)) (x1 := .slice A3 n3 c3) (x2 := .int .i64 (u : Int)) (g := w.heap.size + 1 + 1) E (by simp)).c0, (St.at_ (x0 := .bool (ngB l)) (x1 := .slice A3 n3 c3) (x2 := .int .i64 (u : Int)) (g := w.heap.size + 1 + 1) E (by simp)).c1, (St.at_ (x0 := .bool (ngB l)) (x1 := .slice A3 n3 c3) (x2 := .int .i64 (u : Int)) (g := w.heap.size + 1 + 1) E (by simp)).c2, (St.at_ (x0 := .bool (ngB ra.1)) (x1 := .slice Aa na ca) (x2 := .int .i64 (ra.2.1 : Int)) (g := ga) E (by simp)).c0, (St.at_ (x0 := .bool (ngB ra.1)) (x1 := .slice Aa na ca) (x2 := .int .i64 (ra.2.1 : Int)) (g := ga) E (by simp)).c1, (St.at_ (x0 := .bool (ngB ra.1)) (x1 := .slice Aa na ca) (x2 := .int .i64 (ra.2.1 : Int)) (g := ga) E (by simp)).c2, (St.at_ (x0 := .bool (ngB rc.1)) (x1 := .slice Ac nc cc) (x2 := .int .i64 (rc.2.1 : Int)) (g := gc) E (by simp)).c0, (St.at_ (x0 := .bool (ngB rc.1)) (x1 := .slice Ac nc cc) (x2 := .int .i64 (rc.2.1 : Int)) (g := gc) E (by simp)).c1, (St.at_ (x0 := .bool (ngB rc.1)) (x1 := .slice Ac nc cc) (x2 := .int .i64 (rc.2.1 : Int)) (g := gc) E (by simp)).c2, (St.at_ (x0 := .bool (ngB rd.1)) (x1 := .slice Ad nd cd) (x2 := .int .i64 (rd.2.1 : Int)) (g := gd) E (by simp)).c0, (St.at_ (x0 := .bool (ngB rd.1)) (x1 := .slice Ad nd cd) (x2 := .int .i64 (rd.2.1 : Int)) (g := gd) E (by simp)).c1, (St.at_ (x0 := .bool (ngB rd.1)) (x1 := .slice Ad nd cd) (x2 := .int .i64 (rd.2.1 : Int)) (g := gd) E (by simp)).c2⟩
  refine ⟨_, rfl, hSw, ?_⟩; intro a ha
  refine line_still vvzR 63 63 [] 141 (.bool true) [] rfl (by decide) (by decide) (by decide) ha (fun o ho hg => y_of (wanted_none hg) (fun wx hS => e_pick ho (ha.ev (i := 133) (v := .bool true) (by simp)) (ha.ev (i := 140) (v := .bool true) (by simp)) rfl)) (by simp) hSw ?_; intro a ha
  refine line_still vvzR 64 64 [] 142 (.bool true) [] rfl (by decide) (by decide) (by decide) ha (fun o ho hg => y_of (wanted_none hg) (fun wx hS => e_move (.inl ho) (ha.ev (i := 141) (v := .bool true) (by simp)))) (by simp) hSw ?_; intro a ha
  refine line_call vvzR 65 65 [] 143 (args := #[]) [(142, .bool true)] rfl (by decide) (by decide) (by decide) ha (fun o ho hg => ⟨(vvzR.wanted hg rfl ha (d := 142) (by simp)), e_call13 (by kernel_rfl) ho rfl (by simp)⟩) (by simp) ?_
  refine (awake13 evl13 quo13 sts13 _ (okw12 HOK.out E.out.bel)).mono ?_; rintro e y12 ⟨rfl, hb⟩
  replace E := Lib.hid (E.out.step hb)
  clear hb
  have hSw : (fun v : World => v.cell? ⟨w.heap.size, 0, none⟩ = some (.bool (ngB i)) ∧ v.cell? ⟨w.heap.size, 1, none⟩ = some (.slice A1 n1 c1) ∧ v.cell? ⟨w.heap.size, 2, none⟩ = some (.int .i64 (s : Int)) ∧ v.cell? ⟨w.heap.size + 1, 0, none⟩ = some (.bool (ngB j)) ∧ v.cell? ⟨w.heap.size + 1, 1, none⟩ = some (.slice A2 n2 c2) ∧ v.cell? ⟨w.heap.size + 1, 2, none⟩ = some (.int .i64 (t : Int)) ∧ v.cell? ⟨w.heap.size + 1 + 1, 0, none⟩ = some (.bool (ngB l)) ∧ v.cell? ⟨w.heap.size + 1 + 1, 1, none⟩ = some (.slice A3 n3 c3) ∧ v.cell? ⟨w.heap.size + 1 + 1, 2, none⟩ = some (.int .i64 (u : Int)) ∧ v.cell? ⟨ga, 0, none⟩ = some (.bool (ngB ra.1)) ∧ v.cell? ⟨ga, 1, none⟩ = some (.slice Aa na ca) ∧ v.cell? ⟨ga, 2, none⟩ = some (.int .i64 (ra.2.1 : Int)) ∧ v.cell? ⟨gc, 0, none⟩ = some (.bool (ngB rc.1)) ∧ v.cell? ⟨gc, 1, none⟩ = some (.slice Ac nc cc) ∧ v.cell? ⟨gc, 2, none⟩ = some (.int .i64 (rc.2.1 : Int)) ∧ v.cell? ⟨gd, 0, none⟩ = some (.bool (ngB rd.1)) ∧ v.cell? ⟨gd, 1, none⟩ = some (.slice Ad nd cd) ∧ v.cell? ⟨gd, 2, none⟩ = some (.int .i64 (rd.2.1 : Int))) y12 := ⟨(St.at_ (x0 := .bool (ngB i)) (x1 := .slice A1 n1 c1) (x2 := .int .i64 (s : Int)) (g := w.heap.size) E (by simp)).c0, (St.at_ (x0 := .bool (ngB i)) (x1 := .slice A1 n1 c1) (x2 := .int .i64 (s : Int)) (g := w.heap.size) E (by simp)).c1, (St.at_ (x0 := .bool (ngB i)) (x1 := .slice A1 n1 c1) (x2 := .int .i64 (s : Int)) (g := w.heap.size) E (by simp)).c2, (St.at_ (x0 := .bool (ngB j)) (x1 := .slice A2 n2 c2) (x2 := .int .i64 (t : Int)) (g := w.heap.size + 1) E (by simp)).c0, (St.at_ (x0 := .bool (ngB j)) (x1 := .slice A2 n2 c2) (x2 := .int .i64 (t : Int)) (g := w.heap.size + 1) E (by simp)).c1, (St.at_ (x0 := .bool (ngB j)) (x1 := .slice A2 n2 c2) (x2 := .int .i64 (t : Int)) (g := w.heap.size + 1) E (by simp)).c2, (St.at_ (x0 := .bool (ngB l)) (x1 := .slice A3 n3 c3) (x2 := .int .i64 (u : Int)) (g := w.heap.size + 1 + 1) E (by simp)).c0, (St.at_ (x0 := .bool (ngB l)) (x1 := .slice A3 n3 c3) (x2 := .int .i64 (u : Int)) (g := w.heap.size + 1 + 1) E (by simp)).c1, (St.at_ (x0 := .bool (ngB l)) (x1 := .slice A3 n3 c3) (x2 := .int .i64 (u : Int)) (g := w.heap.size + 1 + 1) E (by simp)).c2, (St.at_ (x0 := .bool (ngB ra.1)) (x1 := .slice Aa na ca) (x2 := .int .i64 (ra.2.1 : Int)) (g := ga) E (by simp)).c0, (St.at_ (x0 := .bool (ngB ra.1)) (x1 := .slice Aa na ca) (x2 := .int .i64 (ra.2.1 : Int)) (g := ga) E (by simp)).c1, (St.at_ (x0 := .bool (ngB ra.1)) (x1 := .slice Aa na ca) (x2 := .int .i64 (ra.2.1 : Int)) (g := ga) E (by simp)).c2, (St.at_ (x0 := .bool (ngB rc.1)) (x1 := .slice Ac nc cc) (x2 := .int .i64 (rc.2.1 : Int)) (g := gc) E (by simp)).c0, (St.at_ (x0 := .bool (ngB rc.1)) (x1 := .slice Ac nc cc) (x2 := .int .i64 (rc.2.1 : Int)) (g := gc) E (by simp)).c1, (St.at_ (x0 := .bool (ngB rc.1)) (x1 := .slice Ac nc cc) (x2 := .int .i64 (rc.2.1 : Int)) (g := gc) E (by simp)).c2, (St.at_ (x0 := .bool (ngB rd.1)) (x1 := .slice Ad nd cd) (x2 := .int .i64 (rd.2.1 : Int)) (g := gd) E (by simp)).c0, (St.at_ (x0 := .bool (ngB rd.1)) (x1 := .slice Ad nd cd) (x2 := .int .i64 (rd.2.1 : Int)) (g := gd) E (by simp)).c1, (St.at_ (x0 := .bool (ngB rd.1)) (x1 := .slice Ad nd cd) (x2 := .int .i64 (rd.2.1 : Int)) (g := gd) E (by simp)).c2⟩
  refine ⟨_, rfl, hSw, ?_⟩; intro a ha
  refine line_still vvzR 66 66 [] 144 (.bool true) [] rfl (by decide) (by decide) (by decide) ha (fun o ho hg => y_of (wanted_none hg) (fun wx hS => e_pick ho (ha.ev (i := 142) (v := .bool true) (by simp)) (ha.ev (i := 143) (v := .bool true) (by simp)) rfl)) (by simp) hSw ?_; intro a ha
  refine line_still vvzR 67 67 [] 6 (.bool true) [] rfl (by decide) (by decide) (by decide) ha (fun o ho hg => y_of (wanted_none hg) (fun wx hS => e_move (.inr ho) (ha.ev (i := 144) (v := .bool true) (by simp)))) (by simp) hSw ?_; intro a ha
  refine line_end vvzR rfl ?_
  simp only [Exit.then]
  refine hK _ _ ?_
  go_wp2
  exact bodyPost_ret (v := .bool true) (by have := ha.2.2 (6, .bool true) (by simp); simp [results, Tryz.results4, go_sem, Array.getD_eq_getD_getElem?, this]) ha.2.1 ⟨rfl, E.out.bel⟩
/-- The law, whatever came. -/
theorem values13_law {w : World} (hok : Ok12 w) (b1 : Bool) (A1 : Option Addr) (n1 c1 : Nat) (xs1 : List Nat) (k1 : Int) (h1 : Lim w w.heap.size A1 n1 c1 xs1) (b2 : Bool) (A2 : Option Addr) (n2 c2 : Nat) (xs2 : List Nat) (k2 : Int) (h2 : Lim w w.heap.size A2 n2 c2 xs2) (b3 : Bool) (A3 : Option Addr) (n3 c3 : Nat) (xs3 : List Nat) (k3 : Int) (h3 : Lim w w.heap.size A3 n3 c3 xs3) : Calls Tryz.prog 4 #[.agg #[.bool b1, .slice A1 n1 c1, .int .i64 k1], .agg #[.bool b2, .slice A2 n2 c2, .int .i64 k2], .agg #[.bool b3, .slice A3 n3 c3, .int .i64 k3]] w (Ret9 w (.bool true)) := by
  cases l1 : longB b1 n1 xs1 k1 with
  | true => exact values_long1 hok h1 h2 h3 l1
  | false =>
    cases l2 : longB b2 n2 xs2 k2 with
    | true => exact values_long2 hok h1 h2 h3 l1 l2
    | false =>
      cases l3 : longB b3 n3 xs3 k3 with
      | true => exact values_long3 hok h1 h2 h3 l1 l2 l3
      | false =>
        obtain ⟨i, s, rfl, rfl, rfl, m1, t1⟩ := of_long l1 h1
        obtain ⟨j, t, rfl, rfl, rfl, m2, t2⟩ := of_long l2 h2
        obtain ⟨l, u, rfl, rfl, rfl, m3, t3⟩ := of_long l3 h3
        exact values_go hok h1 h2 h3 m1 m2 m3 t1 t2 t3
end Go.Proofs.YtdpkbglfebimcaaGreatDoor.Num
