/- What the proof needs, texts ExpZa, ExpWd, in one text. -/
import Derived.Test.YtdpkbglfebimcaaGreatDoorAll38
import Derived.Shelf.Abstract
set_option linter.unusedVariables false
set_option linter.unusedSimpArgs false
namespace Go.Proofs.YtdpkbglfebimcaaGreatDoor.Num
open Go.RowKit
theorem isAt_one {L : List Tok} {a x y : Nat} (h : isAt L a x = true) (hxy : x ≠ y) : isAt L a y = false := by
  unfold isAt at h ⊢
  cases hl : L[a]? with
  | none => rfl
  | some t =>
    rw [hl] at h
    have h2 : isg t x = true := h
    show isg t y = false
    unfold isg at h2 ⊢
    rw [Bool.and_eq_true, decide_eq_true_iff, decide_eq_true_iff] at h2
    rw [h2.2, decide_eq_false (p := [x] = [y]) (fun e => hxy (List.cons.inj e).1), Bool.and_false]
theorem grt_quo {L : List Tok} {i i1 i2 k t : Nat} {x y : Int} (hn : L.length ≤ 200) (hg : Grt L i i1 x k) (ho : Grt L (i1 + 1) i2 y t) (hy : y ≠ 0) : (dg (quoQ x k y t).natAbs).length ≤ 1000 := by
  obtain ⟨q1, q2, q3, q4⟩ := hg
  obtain ⟨g1, g2, g3, g4⟩ := ho
  have := (quoQ_size (t := t) q3 hy).nine
  omega
theorem chn_sum {L : List Tok} (hL : ∀ t ∈ L, t.2.size ≤ 30) (hn : L.length ≤ 200) (i d : Nat) : Chn L i (PRO L d) (fun v k a => SUML L d v k a) 43 45 where
  sx := .inl rfl
  sy := .inr (.inl rfl)
  fin := fun h1 h2 => SUML_end h1 h2
  err := fun h h2 => SUML_err h h2
  go := fun {v k a j t b z} hz ha hp _ => by
    rcases hz with rfl | rfl
    · exact SUML_add ha hp
    · exact SUML_sub (isAt_one ha (by decide)) ha hp
  bad := fun {v k a j t b z} hz _ _ h0 => by
    rcases hz with rfl | rfl
    · exact absurd h0 (Nat.lt_irrefl 0)
    · exact absurd h0 (Nat.lt_irrefl 0)
  grt := fun {v k a j t b z} hz hg hp _ => by
    rcases hz with rfl | rfl
    · exact hg.add (PRO_grt hL hp)
    · exact hg.sub (PRO_grt hL hp)
  pgrt := fun h => PRO_grt hL h
  len := fun hg hp hj => grt_quo hn hg (PRO_grt hL hp) hj
theorem jnd_quo {i j : Int} {s t : Nat} (hj : j ≠ 0) : jnd 47 i s j t = (quoI i s j t, quoK i s j t, 0) := by
  show quv i s j t = _
  unfold quv; rw [if_neg hj]
theorem jnd_zero {i j : Int} {s t : Nat} (hj : j = 0) : jnd 47 i s j t = (0, 0, 4) := by
  show quv i s j t = _
  unfold quv; rw [if_pos hj]
theorem chn_pro {L : List Tok} (hL : ∀ t ∈ L, t.2.size ≤ 30) (hn : L.length ≤ 200) (i d : Nat) : Chn L i (FAC L d) (fun v k a => PROL L d v k a) 42 47 where
  sx := .inr (.inr (.inl rfl))
  sy := .inr (.inr (.inr rfl))
  fin := fun h1 h2 => PROL_end h1 h2
  err := fun h h2 => PROL_err h h2
  go := fun {v k a j t b z} hz ha hp h0 => by
    rcases hz with rfl | rfl
    · exact PROL_mul ha hp
    · by_cases hj : j = 0
      · rw [jnd_zero hj] at h0; cases h0
      · rw [jnd_quo hj]; exact PROL_quo (isAt_one ha (by decide)) ha hp hj
  bad := fun {v k a j t b z} hz ha hp h0 => by
    rcases hz with rfl | rfl
    · exact absurd h0 (Nat.lt_irrefl 0)
    · by_cases hj : j = 0
      · rw [jnd_zero hj]; exact ⟨PROL_zero (isAt_one ha (by decide)) ha hp hj, rfl, rfl⟩
      · rw [jnd_quo hj] at h0; exact absurd h0 (Nat.lt_irrefl 0)
  grt := fun {v k a j t b z} hz hg hp h0 => by
    rcases hz with rfl | rfl
    · exact hg.mul (FAC_grt hL hp)
    · by_cases hj : j = 0
      · rw [jnd_zero hj] at h0; cases h0
      · rw [jnd_quo hj]; exact hg.quo (FAC_grt hL hp) hj
  pgrt := fun h => FAC_grt hL h
  len := fun hg hp hj => grt_quo hn hg (FAC_grt hL hp) hj
set_option maxHeartbeats 8000000 in
set_option maxRecDepth 100000 in
theorem psum {L : List Tk4} {i : Nat} (hL : ∀ t ∈ L.map tok, t.2.size ≤ 30) (hi : i ≤ L.length) (HP : ∀ a, i ≤ a → a ≤ L.length → ProP L a) : SumP L i := by
  intro w g B n c d A hs hr hm hp hn hd
  have hent : ∀ (args : Array Value) (W : World), (callFunc 47 args).run Tryz.prog W = .ok (.enter 47 args) W := enters_of Tryz.func47 (by kernel_rfl) rfl
  have HE := Lib.hid hent
  have hmf : ∀ (fn : Fn) (first cap : Array Value) (w : World), (Instr.makeFunc fn first cap).run Tryz.prog w = .ok (.func fn first cap) w := fun _ _ _ _ => rfl
  clear hent
  have hlen := hr.len
  have hgw := hs.lt
  have E := Lib.hid (sy_start hs hr hm hp)
  have CN := chn_sum (L := L.map tok) hL (by rw [List.length_map]; omega) i d
  have HPP : Hid (∀ a, i ≤ a → a ≤ n → ∀ w' : World, StP w' g A n c a d → RdK w' B A n c L → MaxLen w' → Calls Tryz.prog 47 #[.pointer (some ⟨g, 0, none⟩)] w' (RetX w' g A n c d (PRO (L.map tok) d a))) := fun a h1 h2 w' q1 q2 q3 => HP a h1 (by omega) q1 q2 q3 hp hn hd
  have hin : i ≤ n := by omega
  clear hs hr hm hlen
  go_enter Tryz.func25, Tryz.ntmps25
  go_wp2_with fail
  generalize hW : World.alloc w _ = W1 at E ⊢
  have hsz : w.heap.size + 1 = W1.heap.size := by rw [← hW]; simp
  clear hW
  have SG := Lib.hid (sgn_two W1 ⟨#[43]⟩ ⟨#[45]⟩ 9 (q := w.heap.size + 1) hsz)
  replace E := Lib.hid (E.out.alloc (.cells #[.string ⟨#[43]⟩, .string ⟨#[45]⟩] 9))
  generalize hV : World.alloc W1 _ = V1 at E SG ⊢
  clear hV
  refine (pchain (i := i) (s1 := ⟨#[43]⟩) (s2 := ⟨#[45]⟩) (S := SUM (L.map tok) d i) E.out.st E.out.rd E.out.mx hp hn hd HE.out hin CN rfl rfl SG.out ⟨fun e h => SUM_err h, fun v k b h => SUM_go h⟩ HPP.out).mono ?_; rintro e w9 ⟨x9, k9, A9, n9, c9, i9, e9, rfl, hnum9, hst9, hkp9, hout⟩
  replace E := Lib.hid (SY.push (SY.call E.out hkp9 hst9) hnum9)
  clear hnum9 hst9 hkp9
  have HO := Lib.hid hout
  clear hout
  obtain ⟨r0, r1, r2, rf0, rf1, rf2, rlt⟩ := SY.at_ (x0 := .bool false) (x1 := .slice none 0 0) (x2 := .int .i64 0) (g1 := w.heap.size) E (by simp)
  go_wp2_with fail
  clear r0 r1 r2 rf0 rf1 rf2 rlt
  have EF := Lib.hid (SY.put E.out (g1 := w.heap.size) (b := false) (A1 := none) (n1 := 0) (c1 := 0) (k1 := 0) (by simp) [] (fun q hq => by cases hq) (.bool (ngB x9)) (.slice A9 n9 c9) (.int .i64 (k9 : Int)))
  obtain ⟨r0, r1, r2, _, _, _, _⟩ := SY.at_ (x0 := .bool (ngB x9)) (x1 := .slice A9 n9 c9) (x2 := .int .i64 (k9 : Int)) (g1 := w.heap.size) EF (by simp)
  exact bodyPost_ret (v := .tuple #[.agg #[.bool (ngB x9), .slice A9 n9 c9, .int .i64 (k9 : Int)], .int .i64 (e9 : Int)]) (by simp [results, Tryz.results25, go_sem, r0, r1, r2]) rfl ⟨x9, k9, A9, n9, c9, i9, e9, rfl, SY.got EF (by simp), EF.out.st, EF.out.kp, HO.out⟩
set_option maxHeartbeats 8000000 in
set_option maxRecDepth 100000 in
theorem pprod {L : List Tk4} {i : Nat} (hL : ∀ t ∈ L.map tok, t.2.size ≤ 30) (hi : i ≤ L.length) (HP : ∀ a, i ≤ a → a ≤ L.length → FacP L a) : ProP L i := by
  intro w g B n c d A hs hr hm hp hn hd
  have hent : ∀ (args : Array Value) (W : World), (callFunc 80 args).run Tryz.prog W = .ok (.enter 80 args) W := enters_of Tryz.func80 (by kernel_rfl) rfl
  have HE := Lib.hid hent
  have hmf : ∀ (fn : Fn) (first cap : Array Value) (w : World), (Instr.makeFunc fn first cap).run Tryz.prog w = .ok (.func fn first cap) w := fun _ _ _ _ => rfl
  clear hent
  have hlen := hr.len
  have hgw := hs.lt
  have E := Lib.hid (sy_start hs hr hm hp)
  have CN := chn_pro (L := L.map tok) hL (by rw [List.length_map]; omega) i d
  have HPP : Hid (∀ a, i ≤ a → a ≤ n → ∀ w' : World, StP w' g A n c a d → RdK w' B A n c L → MaxLen w' → Calls Tryz.prog 80 #[.pointer (some ⟨g, 0, none⟩)] w' (RetX w' g A n c d (FAC (L.map tok) d a))) := fun a h1 h2 w' q1 q2 q3 => HP a h1 (by omega) q1 q2 q3 hp hn hd
  have hin : i ≤ n := by omega
  clear hs hr hm hlen
  go_enter Tryz.func47, Tryz.ntmps47
  go_wp2_with fail
  generalize hW : World.alloc w _ = W1 at E ⊢
  have hsz : w.heap.size + 1 = W1.heap.size := by rw [← hW]; simp
  clear hW
  have SG := Lib.hid (sgn_two W1 ⟨#[42]⟩ ⟨#[47]⟩ 9 (q := w.heap.size + 1) hsz)
  replace E := Lib.hid (E.out.alloc (.cells #[.string ⟨#[42]⟩, .string ⟨#[47]⟩] 9))
  generalize hV : World.alloc W1 _ = V1 at E SG ⊢
  clear hV
  refine (pchain (i := i) (s1 := ⟨#[42]⟩) (s2 := ⟨#[47]⟩) (S := PRO (L.map tok) d i) E.out.st E.out.rd E.out.mx hp hn hd HE.out hin CN rfl rfl SG.out ⟨fun e h => PRO_err h, fun v k b h => PRO_go h⟩ HPP.out).mono ?_; rintro e w9 ⟨x9, k9, A9, n9, c9, i9, e9, rfl, hnum9, hst9, hkp9, hout⟩
  replace E := Lib.hid (SY.push (SY.call E.out hkp9 hst9) hnum9)
  clear hnum9 hst9 hkp9
  have HO := Lib.hid hout
  clear hout
  obtain ⟨r0, r1, r2, rf0, rf1, rf2, rlt⟩ := SY.at_ (x0 := .bool false) (x1 := .slice none 0 0) (x2 := .int .i64 0) (g1 := w.heap.size) E (by simp)
  go_wp2_with fail
  clear r0 r1 r2 rf0 rf1 rf2 rlt
  have EF := Lib.hid (SY.put E.out (g1 := w.heap.size) (b := false) (A1 := none) (n1 := 0) (c1 := 0) (k1 := 0) (by simp) [] (fun q hq => by cases hq) (.bool (ngB x9)) (.slice A9 n9 c9) (.int .i64 (k9 : Int)))
  obtain ⟨r0, r1, r2, _, _, _, _⟩ := SY.at_ (x0 := .bool (ngB x9)) (x1 := .slice A9 n9 c9) (x2 := .int .i64 (k9 : Int)) (g1 := w.heap.size) EF (by simp)
  exact bodyPost_ret (v := .tuple #[.agg #[.bool (ngB x9), .slice A9 n9 c9, .int .i64 (k9 : Int)], .int .i64 (e9 : Int)]) (by simp [results, Tryz.results47, go_sem, r0, r1, r2]) rfl ⟨x9, k9, A9, n9, c9, i9, e9, rfl, SY.got EF (by simp), EF.out.st, EF.out.kp, HO.out⟩
theorem pall {L : List Tk4} (hL : ∀ t ∈ L.map tok, t.2.size ≤ 30) : ∀ m i, i ≤ L.length → L.length - i < m → FacP L i ∧ ProP L i ∧ SumP L i := by
  intro m
  induction m with
  | zero => intro i _ h; omega
  | succ m ih =>
    intro i hi hm
    have later : ∀ j, i < j → j ≤ L.length → FacP L j ∧ ProP L j ∧ SumP L j := fun j h1 h2 => ih j h2 (by omega)
    have F : FacP L i := pfactor hL hi (fun h => (later (i + 1) (by omega) (by omega)).2.2) (fun h => (later (i + 1) (by omega) (by omega)).1)
    have P : ProP L i := pprod hL hi fun j h1 h2 => by
      rcases Nat.eq_or_lt_of_le h1 with rfl | h3
      · exact F
      · exact (later j h3 h2).1
    have S : SumP L i := psum hL hi fun j h1 h2 => by
      rcases Nat.eq_or_lt_of_le h1 with rfl | h3
      · exact P
      · exact (later j h3 h2).2.1
    exact ⟨F, P, S⟩
theorem psum_at {L : List Tk4} (hL : ∀ t ∈ L.map tok, t.2.size ≤ 30) {i : Nat} (hi : i ≤ L.length) : SumP L i := (pall hL (L.length + 1) i hi (by omega)).2.2
set_option maxHeartbeats 8000000 in
set_option maxRecDepth 100000 in
theorem peval_bad {w : World} {B n c : Nat} {A : Option Addr} {L : List Tk4} (hr : RdK w B A n c L) (hn : n ≤ 200) {a : Int} (ha : a < 0 ∨ (n : Int) < a) :
    Calls Tryz.prog 9 #[.slice A n c, .int .i64 a] w (RetE w (0, 0, a, 1)) := by
  have E := Lib.hid ((St.start w (l := []) (by intro q hq; cases hq)).lay (g := w.heap.size) (x0 := .bool false) (x1 := .slice none 0 0) (x2 := .int .i64 0) (t := 26) rfl)
  clear hr
  by_cases h : a < 0
  · have d1 : decide (a < 0) = true := decide_eq_true h
    go_enter Tryz.func9, Tryz.ntmps9
    go_wp2_with fail
    obtain ⟨r0, r1, r2, _, _, _, _⟩ := St.at_ (x0 := .bool false) (x1 := .slice none 0 0) (x2 := .int .i64 0) (g := w.heap.size) E (by simp)
    exact bodyPost_ret (v := .tuple #[.agg #[.bool false, .slice none 0 0, .int .i64 0], .int .i64 a, .int .i64 1]) (by simp [results, Tryz.results9, go_sem, r0, r1, r2]) rfl ⟨none, 0, 0, rfl, num_zero _ _, E.out.bel⟩
  · have d1 : decide (a < 0) = false := decide_eq_false (by omega)
    have d2 : decide ((n : Int) < a) = true := decide_eq_true (by omega)
    go_enter Tryz.func9, Tryz.ntmps9
    go_wp2_with fail
    obtain ⟨r0, r1, r2, _, _, _, _⟩ := St.at_ (x0 := .bool false) (x1 := .slice none 0 0) (x2 := .int .i64 0) (g := w.heap.size) E (by simp)
    exact bodyPost_ret (v := .tuple #[.agg #[.bool false, .slice none 0 0, .int .i64 0], .int .i64 a, .int .i64 1]) (by simp [results, Tryz.results9, go_sem, r0, r1, r2]) rfl ⟨none, 0, 0, rfl, num_zero _ _, E.out.bel⟩
theorem stp_new (v : World) {g n c a : Nat} {A : Option Addr} (h : g = v.heap.size) : StP (v.alloc (.cells #[.slice A n c, .int .i64 (a : Int), .int .i64 0] 53)) g A n c a 0 := by
  subst h; exact heap_alloc_new v _
set_option maxHeartbeats 8000000 in
set_option maxRecDepth 100000 in
theorem peval_ok {w : World} {B n c i : Nat} {A : Option Addr} {L : List Tk4} (hr : RdK w B A n c L) (hB : B ≤ w.heap.size) (hn : n ≤ 200) (hL : ∀ t ∈ L.map tok, t.2.size ≤ 30) (hi : i ≤ n) (hm : MaxLen w) :
    Calls Tryz.prog 9 #[.slice A n c, .int .i64 (i : Int)] w (RetE w (evl (L.map tok) (i : Int))) := by
  have hlen := hr.len
  have HSUM : SumP L i := psum_at hL (by omega)
  have d1 : decide ((i : Int) < 0) = false := decide_eq_false (by omega)
  have d2 : decide ((n : Int) < (i : Int)) = false := decide_eq_false (by omega)
  have d3 : decide (n < i) = false := decide_eq_false (by omega)
  have HV : Hid (evl (L.map tok) (i : Int) = match SUM (L.map tok) 0 i with | .inl (z, b) => (0, 0, (b : Int), z) | .inr (x, k, b) => (x, k, (b : Int), 0)) := by
    show _ = _
    unfold evl
    rw [if_neg (by rw [List.length_map]; omega)]
    rfl
  have E0 := (St.start w (l := []) (by intro q hq; cases hq)).lay (g := w.heap.size) (x0 := .bool false) (x1 := .slice none 0 0) (x2 := .int .i64 0) (t := 26) rfl
  have hb1 : Below w.heap.size w ((w.alloc (.cells #[.bool false, .slice none 0 0, .int .i64 0] 26)).alloc (.cells #[.slice A n c, .int .i64 (i : Int), .int .i64 0] 53)) := ((Below.refl _ _).alloc (Nat.le_refl _) _).alloc (by simp) _
  have HR := Lib.hid (hr.on hB hb1)
  have HM := Lib.hid (hm.on hb1)
  have HE := Lib.hid (E0.alloc (.cells #[.slice A n c, .int .i64 (i : Int), .int .i64 0] 53))
  have HS : Hid (StP _ (w.heap.size + 1) A n c i 0) := stp_new (w.alloc (.cells #[.bool false, .slice none 0 0, .int .i64 0] 26)) (by simp)
  clear hr hlen hb1 E0 hm
  go_enter Tryz.func9, Tryz.ntmps9
  go_wp2_with fail
  generalize hW : World.alloc (World.alloc w _) _ = W1 at HR HM HE HS ⊢
  clear hW
  refine (HSUM HS.out HR.out HM.out (by omega) hn (by omega)).mono ?_; rintro e w9 ⟨x9, k9, A9, n9, c9, i9, e9, rfl, hnum9, hst9, hkp9, hout⟩
  have hbel : Below w.heap.size w w9 := HE.out.bel.trans (hkp9.below (Nat.le_succ _) (fun g e => by cases e) HE.out.bel.size)
  have hbox : Box w9 w.heap.size (.bool false) (.slice none 0 0) (.int .i64 0) := (St.at_ HE (by simp)).kp hkp9 (by omega)
  have E : Hid (St w w9 [(A9, n9, c9, x9.natAbs)] [(w.heap.size, .bool false, .slice none 0 0, .int .i64 0)]) := ⟨hbel, fun q hq => by simp at hq; subst hq; exact hnum9, fun q hq => by simp at hq; subst hq; exact ⟨hbox, Nat.le_refl _⟩⟩
  have S9 := Lib.hid hst9
  have hlt9 : w.heap.size < w9.heap.size := hbox.lt
  have hgl9 := hst9.lt
  have HV2 : Hid (evl (L.map tok) (i : Int) = (x9, k9, (i9 : Int), e9)) := by
    show _ = _
    rw [HV.out]
    cases hS : SUM (L.map tok) 0 i with
    | inl r =>
      obtain ⟨z, b⟩ := r
      rw [hS] at hout
      obtain ⟨-, rfl, rfl, rfl, rfl⟩ := hout
      rfl
    | inr r =>
      obtain ⟨j, s, b⟩ := r
      rw [hS] at hout
      obtain ⟨rfl, rfl, rfl, rfl⟩ := hout
      rfl
  clear hnum9 hst9 hkp9 hbel hbox hout HR HE HS HM HV
  obtain ⟨g, hg⟩ : ∃ g, w.heap.size + 1 = g := ⟨_, rfl⟩
  have n1 : g ≠ w.heap.size := by omega
  have n2 : w.heap.size ≠ g := by omega
  rw [hg] at S9 hgl9 ⊢
  clear hg
  obtain ⟨p0, p1, p2, pf0, pf1, pf2, plt⟩ := S9.out.bx
  obtain ⟨r0, r1, r2, rf0, rf1, rf2, rlt⟩ := St.at_ (x0 := .bool false) (x1 := .slice none 0 0) (x2 := .int .i64 0) (g := w.heap.size) E (by simp)
  go_wp2_with fail
  clear p0 p1 p2 pf0 pf1 pf2 plt r0 r1 r2 rf0 rf1 rf2 rlt
  replace S9 := Lib.hid (S9.out.on ((Below.refl _ w9).alloc (Nat.le_refl _) (.cells #[.bool (ngB x9), .slice A9 n9 c9, .int .i64 (k9 : Int)] 26)))
  replace E := Lib.hid (E.out.lay (g := w9.heap.size) (x0 := .bool (ngB x9)) (x1 := .slice A9 n9 c9) (x2 := .int .i64 (k9 : Int)) (t := 26) rfl)
  generalize hV : World.alloc w9 _ = V at E S9 ⊢
  clear hV
  obtain ⟨p0, p1, p2, pf0, pf1, pf2, plt⟩ := S9.out.bx
  obtain ⟨r0, r1, r2, rf0, rf1, rf2, rlt⟩ := St.at_ (x0 := .bool false) (x1 := .slice none 0 0) (x2 := .int .i64 0) (g := w.heap.size) E (by simp)
  obtain ⟨y0, y1, y2, yf0, yf1, yf2, ylt⟩ := St.at_ (x0 := .bool (ngB x9)) (x1 := .slice A9 n9 c9) (x2 := .int .i64 (k9 : Int)) (g := w9.heap.size) E (by simp)
  go_region
  go_wp2_with fail
  clear p0 p1 p2 pf0 pf1 pf2 plt r0 r1 r2 rf0 rf1 rf2 rlt y0 y1 y2 yf0 yf1 yf2 ylt
  have EF := Lib.hid (St.store E.out (g := w.heap.size) (x0 := .bool false) (x1 := .slice none 0 0) (x2 := .int .i64 0) (by simp) (noLimb_bool _) (noLimb_slice _ _ _) (noLimb_int _) [] (fun q hq => by cases hq) (.bool (ngB x9)) (.slice A9 n9 c9) (.int .i64 (k9 : Int)))
  replace EF := Lib.hid EF.out.drew
  obtain ⟨r0, r1, r2, _, _, _, _⟩ := St.at_ (x0 := .bool (ngB x9)) (x1 := .slice A9 n9 c9) (x2 := .int .i64 (k9 : Int)) (g := w.heap.size) EF (by simp)
  exact bodyPost_ret (v := .tuple #[.agg #[.bool (ngB x9), .slice A9 n9 c9, .int .i64 (k9 : Int)], .int .i64 (i9 : Int), .int .i64 (e9 : Int)]) (by simp [results, Tryz.results9, go_sem, r0, r1, r2]) rfl (by rw [HV2.out]; exact ⟨A9, n9, c9, rfl, St.got EF (by simp), EF.out.bel⟩)
/-- What the laws ask of the program. -/
theorem evl13 : EVL Ok12 := fun {w B n c A L} a hr hB hn hL hok => by
  have hlen := hr.len
  by_cases h : a < 0 ∨ (n : Int) < a
  · have e : evl (L.map tok) a = (0, 0, a, 1) := by unfold evl; rw [if_pos (by rw [List.length_map, ← hlen]; exact h)]
    rw [e]; exact peval_bad hr hn h
  · obtain ⟨i, rfl⟩ : ∃ i : Nat, (i : Int) = a := ⟨a.toNat, by omega⟩
    exact peval_ok hr hB hn hL (by omega) hok.2.1
theorem quo13 : QUO Ok12 := fun {w A A' n c n' c' s t i j} h h' hn hn' hs ht _ => pquo h h' (by omega) (by omega) (by omega) (by omega) fun hj => by
  have := (quoQ_size (t := t) (Sz.of_len (x := i) (s := s) (n := 12) (by have := h.len; omega)) hj).nine
  omega
theorem sts13 : STS Ok12 := by intro k T l c w _; exact pstarts rfl l c
end Go.Proofs.YtdpkbglfebimcaaGreatDoor.Num
namespace Go.Proofs.YtdpkbglfebimcaaGreatDoor.Num
open Go.RowKit
theorem words_us {w : World} {s : ByteArray} {us : List (Nat × List Nat)} (hok : Ok12 w) (hs : s.size ≤ 1000) (hw : Wds (bs9 s) us) :
    Calls Tryz.prog 17 #[.string s] w (fun e w' => ∃ A c L, e = .returned (.slice A us.length c) ∧ L.map tok = us.map tk ∧ RdK w' w'.heap.size A us.length c L ∧ Below w.heap.size w w') := by
  obtain ⟨ts, h1, h2⟩ := hw 0
  have hl : ts.length = us.length := by rw [← h2, List.length_map]
  refine (words13 hok hs h1).mono fun e w' ⟨A, c, he, hr, hb⟩ => ?_
  rw [hl] at he hr
  exact ⟨A, c, tks 1 ts, he, tks_tk 1 h2, hr, hb⟩
theorem st9_sz (a : List Nat) : (st9 a).size = a.length := by
  show (a.map UInt8.ofNat).toArray.size = _
  simp
/-- A text and one more byte. -/
theorem add_one {X : ByteArray} {a : List Nat} {c : Nat} (hX : bs9 X = a) (hc : c < 256) (ha : a.length ≤ 1000) : ∃ Y, bs9 Y = a ++ [c] ∧ ∀ w, (Op.stringOp .add X (st9 [c])).run Tryz.prog w = .ok (.string Y) w := by
  have hc2 : bs9 (st9 [c]) = [c] := bs9_st9 (by intro y hy; rw [List.mem_singleton] at hy; omega)
  have hlt : ∀ y ∈ a ++ [c], y < 256 := fun y hy => by
    rcases List.mem_append.1 hy with h | h
    · rw [← hX] at h; exact bs9_lt X y h
    · rw [List.mem_singleton] at h; omega
  refine ⟨st9 (a ++ [c]), bs9_st9 hlt, fun w => add9 (z := st9 (a ++ [c])) (by rw [hX, hc2, bs9_st9 hlt]) ?_ w⟩
  have := bs9_len X
  rw [hX] at this
  rw [st9_sz]
  show _ + 1 ≤ _
  omega
theorem rep_one (j c : Nat) : List.replicate j c ++ [c] = List.replicate (j + 1) c := List.replicate_succ'.symm
theorem evl_inl {L : List Tok} {z b : Nat} (h : SUM L 0 0 = .inl (z, b)) : evl L 0 = (0, 0, (b : Int), z) := by
  unfold evl
  rw [if_neg (by omega)]
  show (match SUM L 0 0 with | .inl (z, b) => _ | .inr (x, k, b) => _) = _
  rw [h]
theorem evl_inr {L : List Tok} {x : Int} {k b : Nat} (h : SUM L 0 0 = .inr (x, k, b)) : evl L 0 = (x, k, (b : Int), 0) := by
  unfold evl
  rw [if_neg (by omega)]
  show (match SUM L 0 0 with | .inl (z, b) => _ | .inr (x, k, b) => _) = _
  rw [h]
theorem tk_small {us : List (Nat × List Nat)} (h : ∀ u ∈ us, u.2.length ≤ 30) : ∀ t ∈ us.map tk, t.2.size ≤ 30 := fun t ht => by
  obtain ⟨u, hu, rfl⟩ := List.mem_map.1 ht
  show (st9 u.2).size ≤ 30
  rw [st9_sz]; exact h u hu
def usM (k : Nat) : List (Nat × List Nat) := List.replicate k (10, [45]) ++ [(4, bod 7 0)]
def usO (k : Nat) : List (Nat × List Nat) := List.replicate k (10, [40]) ++ ((4, bod 7 0) :: List.replicate k (10, [41]))
theorem usM_small (k : Nat) : ∀ u ∈ usM k, u.2.length ≤ 30 := fun u hu => by
  rcases List.mem_append.1 hu with h | h
  · rw [List.eq_of_mem_replicate h]; show 1 ≤ 30; omega
  · rw [List.mem_singleton] at h; subst h; show (bod 7 0).length ≤ 30; rw [bod_seven]; show 1 ≤ 30; omega
theorem usO_small (k : Nat) : ∀ u ∈ usO k, u.2.length ≤ 30 := fun u hu => by
  rcases List.mem_append.1 hu with h | h
  · rw [List.eq_of_mem_replicate h]; show 1 ≤ 30; omega
  · rcases List.mem_cons.1 h with rfl | h
    · show (bod 7 0).length ≤ 30; rw [bod_seven]; show 1 ≤ 30; omega
    · rw [List.eq_of_mem_replicate h]; show 1 ≤ 30; omega
theorem wdM_len (k : Nat) : (List.replicate k 45 ++ (bod 7 0 ++ [])).length = k + 1 := by rw [bod_seven]; simp
theorem wdO_len (k j : Nat) : (List.replicate k 40 ++ (bod 7 0 ++ List.replicate j 41)).length = k + (1 + j) := by rw [bod_seven]; simp; omega
theorem usM_len (k : Nat) : (usM k).length = k + 1 := by unfold usM; simp
theorem usO_len (k : Nat) : (usO k).length = 2 * k + 1 := by unfold usO; simp; omega
set_option maxHeartbeats 8000000 in
set_option maxRecDepth 100000 in
theorem deep_minus {w : World} (hok : Ok12 w) (N : Nat) (hN : N ≤ 255) : Calls Tryz.prog 5 #[.int .u8 (N : Int), .bool true] w (Ret9 w (.bool true)) := by
  obtain ⟨k, hk⟩ : ∃ k, 50 + N % 30 = k := ⟨_, rfl⟩
  have hk1 : 50 ≤ k ∧ k ≤ 79 := by omega
  have ek : (50 : Int) + (N : Int) % 30 = (k : Int) := by omega
  have HOK := Lib.hid hok
  clear hok hk
  go_enter Tryz.func5, Tryz.ntmps5
  go_wp2_with fail
  go_loop [6, 16] (fun sv iv => ∃ (j : Nat) (X : ByteArray), j ≤ k ∧ iv = .int .i64 j ∧ sv = .string X ∧ bs9 X = List.replicate j 45) (fun _ iv => k - (intOf iv).toNat)
  case atStart => exact ⟨0, ⟨#[]⟩, Nat.zero_le _, rfl, rfl, rfl⟩
  case round =>
    obtain ⟨j, X, hj, rfl, rfl, hX⟩ := hrel
    rcases Nat.lt_or_ge j k with h | h
    · obtain ⟨Y, hY, hadd⟩ := add_one hX (c := 45) (by decide) (by rw [List.length_replicate]; omega)
      have hadd2 : ∀ w, (Op.stringOp .add X ⟨#[45]⟩).run Tryz.prog w = .ok (.string Y) w := hadd
      rw [rep_one] at hY
      have HY := Lib.hid hY
      clear hX hY hadd
      go_wp2_with fail
      go_round
      case rel => exact ⟨j + 1, Y, by omega, by go_num, rfl, HY.out⟩
      case measure => simp [intOf]; omega
    · obtain rfl := (show k = j by omega)
      obtain ⟨Y, hY, hadd⟩ := add_one hX (c := 55) (by decide) (by rw [List.length_replicate]; omega)
      have hadd2 : ∀ w, (Op.stringOp .add X ⟨#[55]⟩).run Tryz.prog w = .ok (.string Y) w := hadd
      have HY := Lib.hid hY
      clear hX hY hadd h hj
      obtain ⟨Z, hZ⟩ : ∃ Z, Z = Y := ⟨_, rfl⟩
      obtain rfl := hZ.symm
      have HZ : Hid (bs9 Y = List.replicate k 45 ++ (bod 7 0 ++ [])) := by show _ = _; rw [HY.out, bod_seven]; rfl
      clear HY hZ
      have HZS : Hid (Y.size ≤ 1000) := by show _ ≤ _; rw [← bs9_len, HZ.out, wdM_len]; omega
      have HWD : Hid (Wds (bs9 Y) (usM k)) := by show Wds _ _; rw [HZ.out]; exact wds_signs k
      obtain ⟨M, hM⟩ : ∃ M, (usM k).length = M := ⟨_, rfl⟩
      have HUL := Lib.hid hM
      have hM2 : k + 1 = M := by rw [← hM, usM_len]
      clear hM
      rcases Nat.lt_or_ge 64 k with h64 | h64
      · have HEV : Hid (evl ((usM k).map tk) 0 = (0, 0, ((64 : Nat) : Int), 6)) := evl_inl (deep_bad (by decide) h64 rfl)
        have d64 : decide ((64 : Int) < (k : Int)) = true := decide_eq_true (by omega)
        go_wp2_with fail
        refine (words_us HOK.out HZS.out HWD.out).mono ?_; rintro e w1 ⟨A1, c1, L, rfl, hL, hr, hb⟩
        rw [HUL.out] at hr ⊢
        have E := Lib.hid ((St.start w (l := []) (by intro q hq; cases hq)).step hb)
        have R := Lib.hid hr
        have HL := Lib.hid hL
        clear hr hL hb
        go_wp2_with fail
        refine (evl13 (L := L) 0 R.out (Nat.le_refl _) (by omega) (by rw [HL.out]; exact tk_small (usM_small k)) (okw12 HOK.out E.out.bel)).mono ?_; rintro e w2 ⟨A2, n2, c2, rfl, hnum, hb⟩
        rw [HL.out, HEV.out] at hnum ⊢
        replace E := Lib.hid (E.out.push hb hnum)
        clear hb hnum R
        go_wp2_with fail
        have hb := (E.out.alloc (.cells #[.bool (ngB 0), .slice A2 n2 c2, .int .i64 ((0 : Nat) : Int)] 26)).bel
        refine (awake13 evl13 quo13 sts13 _ (okw12 HOK.out hb)).mono ?_; rintro e w3 ⟨rfl, hb3⟩
        go_wp2_with fail
        go_ret
        exact ⟨rfl, hb.trans (hb3.mono hb.size)⟩
      · have HEV : Hid (evl ((usM k).map tk) 0 = (sgn7 k, 0, (M : Int), 0)) := by
          show _ = _
          have e := evl_inr (sign_ok (L := (usM k).map tk) h64 rfl)
          rw [List.length_map, HUL.out] at e; exact e
        have d64 : decide ((64 : Int) < (k : Int)) = false := decide_eq_false (by omega)
        go_wp2_with fail
        refine (words_us HOK.out HZS.out HWD.out).mono ?_; rintro e w1 ⟨A1, c1, L, rfl, hL, hr, hb⟩
        rw [HUL.out] at hr ⊢
        have E := Lib.hid ((St.start w (l := []) (by intro q hq; cases hq)).step hb)
        have R := Lib.hid hr
        have HL := Lib.hid hL
        clear hr hL hb
        go_wp2_with fail
        refine (evl13 (L := L) 0 R.out (Nat.le_refl _) (by omega) (by rw [HL.out]; exact tk_small (usM_small k)) (okw12 HOK.out E.out.bel)).mono ?_; rintro e w2 ⟨A2, n2, c2, rfl, hnum, hb⟩
        rw [HL.out, HEV.out] at hnum ⊢
        obtain ⟨x, hx⟩ : ∃ x : Int, sgn7 k = x := ⟨_, rfl⟩
        obtain ⟨v, hv⟩ : ∃ v : Int, 7 = v := ⟨_, rfl⟩
        have HX := Lib.hid hx
        have HVV := Lib.hid hv
        rw [hx] at hnum ⊢
        clear hx hv
        replace E := Lib.hid (E.out.push hb hnum)
        clear hb hnum R
        go_wp2_with fail
        replace E := Lib.hid (E.out.lay (g := w2.heap.size) (x0 := .bool (ngB x)) (x1 := .slice A2 n2 c2) (x2 := .int .i64 ((0 : Nat) : Int)) (t := 26) rfl)
        obtain ⟨g2, hg2⟩ : ∃ g, w2.heap.size = g := ⟨_, rfl⟩
        rw [hg2] at E ⊢
        clear hg2
        generalize hV : World.alloc w2 _ = V2 at E ⊢
        clear hV
        refine (mk_is5 (i := v) (s := 0) _ HVV.out rfl (by rw [← HVV.out]; decide) (by decide)).mono ?_; rintro e w3 ⟨A3, n3, c3, rfl, hnum3, hb3⟩
        replace E := Lib.hid (E.out.push hb3 hnum3)
        clear hnum3 hb3
        rcases Nat.mod_two_eq_zero_or_one k with hp | hp
        · have dk : ((k : Int) % 2 == 1) = false := by rw [beq_eq_false_iff_ne]; omega
          have HXV : Hid (x = v) := by show _ = _; rw [← HX.out, ← HVV.out]; unfold sgn7; rw [if_neg (by omega)]
          clear hp
          go_wp2_with fail
          replace E := Lib.hid (E.out.lay (g := w3.heap.size) (x0 := .bool (ngB v)) (x1 := .slice A3 n3 c3) (x2 := .int .i64 ((0 : Nat) : Int)) (t := 26) rfl)
          obtain ⟨g3, hg3⟩ : ∃ g, w3.heap.size = g := ⟨_, rfl⟩
          rw [hg3] at E ⊢
          clear hg3
          generalize hV : World.alloc w3 _ = V3 at E ⊢
          clear hV
          refine (words_us (okw12 HOK.out E.out.bel) HZS.out HWD.out).mono ?_; rintro e w5 ⟨A5, c5, L5, rfl, -, -, hb⟩
          rw [HUL.out]
          replace E := Lib.hid (E.out.step hb)
          clear hb
          obtain ⟨p0, p1, p2, pf0, pf1, pf2, plt⟩ := St.at_ (x0 := .bool (ngB x)) (x1 := .slice A2 n2 c2) (x2 := .int .i64 ((0 : Nat) : Int)) (g := g2) E (by simp)
          obtain ⟨q0, q1, q2, qf0, qf1, qf2, qlt⟩ := St.at_ (x0 := .bool (ngB v)) (x1 := .slice A3 n3 c3) (x2 := .int .i64 ((0 : Nat) : Int)) (g := g3) E (by simp)
          go_wp2_with fail
          clear p0 p1 p2 pf0 pf1 pf2 plt
          clear q0 q1 q2 qf0 qf1 qf2 qlt
          refine (alike_is5 (i := x) (j := v) (s := 0) (t := 0) (St.got E (A := A2) (n := n2) (c := c2) (by simp)) (St.got E (A := A3) (n := n3) (c := c3) (by simp)) (alike_yes HXV.out rfl)).mono ?_; rintro e w6 ⟨rfl, hb⟩
          replace E := Lib.hid (E.out.step hb)
          clear hb
          go_wp2_with fail
          refine (awake13 evl13 quo13 sts13 _ (okw12 HOK.out E.out.bel)).mono ?_; rintro e w7 ⟨rfl, hb⟩
          replace E := Lib.hid (E.out.step hb)
          clear hb
          go_wp2_with fail
          go_ret
          exact ⟨rfl, E.out.bel⟩
        · have dk : ((k : Int) % 2 == 1) = true := by rw [beq_iff_eq]; omega
          have HXV : Hid (-v = x) := by show _ = _; rw [← HX.out, ← HVV.out]; unfold sgn7; rw [if_pos hp]
          clear hp
          have hn3 : n3 ≤ 1000000 := by have := (St.got E (A := A3) (n := n3) (c := c3) (a := v.natAbs) (by simp)).len; rw [← HVV.out] at this; have h2 := len_nine (a := 7) (m := 1) (by decide); have h3 : (7 : Int).natAbs = 7 := rfl; rw [h3] at this; omega
          go_wp2_with fail
          have n23 : g2 ≠ w3.heap.size := by have := (St.at_ (x0 := .bool (ngB x)) (x1 := .slice A2 n2 c2) (x2 := .int .i64 ((0 : Nat) : Int)) (g := g2) E (by simp)).lt; omega
          replace E := Lib.hid (E.out.lay (g := w3.heap.size) (x0 := .bool (ngB v)) (x1 := .slice A3 n3 c3) (x2 := .int .i64 ((0 : Nat) : Int)) (t := 26) rfl)
          obtain ⟨g3, hg3⟩ : ∃ g, w3.heap.size = g := ⟨_, rfl⟩
          rw [hg3] at E n23 ⊢
          clear hg3
          generalize hV : World.alloc w3 _ = V3 at E ⊢
          clear hV
          refine (neg_is5 (i := v) (s := 0) (x := x) (St.got E (A := A3) (n := n3) (c := c3) (by simp)) hn3 (by decide) HXV.out).mono ?_; rintro e w4 ⟨A4, n4, c4, rfl, hnum4, hb4⟩
          replace E := Lib.hid (E.out.push hb4 hnum4)
          clear hnum4 hb4
          obtain ⟨q0, q1, q2, qf0, qf1, qf2, qlt⟩ := St.at_ (x0 := .bool (ngB v)) (x1 := .slice A3 n3 c3) (x2 := .int .i64 ((0 : Nat) : Int)) (g := g3) E (by simp)
          go_wp2_with fail
          clear q0 q1 q2 qf0 qf1 qf2 qlt
          replace E := Lib.hid (St.store E.out (g := g3) (x0 := .bool (ngB v)) (x1 := .slice A3 n3 c3) (x2 := .int .i64 ((0 : Nat) : Int)) (by simp) (noLimb_bool _) (noLimb_slice _ _ _) (noLimb_int _) [(g2, .bool (ngB x), .slice A2 n2 c2, .int .i64 ((0 : Nat) : Int))] (fun q hq => by simp at hq; subst hq; exact ⟨by simp, n23.symm⟩) (.bool (ngB x)) (.slice A4 n4 c4) (.int .i64 ((0 : Nat) : Int)))
          unfold put3 at E
          generalize hV : World.setCell _ _ _ = V4 at E ⊢
          clear hV
          refine (words_us (okw12 HOK.out E.out.bel) HZS.out HWD.out).mono ?_; rintro e w5 ⟨A5, c5, L5, rfl, -, -, hb⟩
          rw [HUL.out]
          replace E := Lib.hid (E.out.step hb)
          clear hb
          obtain ⟨p0, p1, p2, pf0, pf1, pf2, plt⟩ := St.at_ (x0 := .bool (ngB x)) (x1 := .slice A2 n2 c2) (x2 := .int .i64 ((0 : Nat) : Int)) (g := g2) E (by simp)
          obtain ⟨q0, q1, q2, qf0, qf1, qf2, qlt⟩ := St.at_ (x0 := .bool (ngB x)) (x1 := .slice A4 n4 c4) (x2 := .int .i64 ((0 : Nat) : Int)) (g := g3) E (by simp)
          go_wp2_with fail
          clear p0 p1 p2 pf0 pf1 pf2 plt
          clear q0 q1 q2 qf0 qf1 qf2 qlt
          refine (alike_is5 (i := x) (j := x) (s := 0) (t := 0) (St.got E (A := A2) (n := n2) (c := c2) (by simp)) (St.got E (A := A4) (n := n4) (c := c4) (by simp)) (alike_yes rfl rfl)).mono ?_; rintro e w6 ⟨rfl, hb⟩
          replace E := Lib.hid (E.out.step hb)
          clear hb
          go_wp2_with fail
          refine (awake13 evl13 quo13 sts13 _ (okw12 HOK.out E.out.bel)).mono ?_; rintro e w7 ⟨rfl, hb⟩
          replace E := Lib.hid (E.out.step hb)
          clear hb
          go_wp2_with fail
          go_ret
          exact ⟨rfl, E.out.bel⟩
set_option maxHeartbeats 8000000 in
set_option maxRecDepth 100000 in
theorem deep_open {w : World} (hok : Ok12 w) (N : Nat) (hN : N ≤ 255) : Calls Tryz.prog 5 #[.int .u8 (N : Int), .bool false] w (Ret9 w (.bool true)) := by
  obtain ⟨k, hk⟩ : ∃ k, 50 + N % 30 = k := ⟨_, rfl⟩
  have hk1 : 50 ≤ k ∧ k ≤ 79 := by omega
  have ek : (50 : Int) + (N : Int) % 30 = (k : Int) := by omega
  have HOK := Lib.hid hok
  clear hok hk
  go_enter Tryz.func5, Tryz.ntmps5
  go_wp2_with fail
  go_loop [6, 16] (fun sv iv => ∃ (j : Nat) (X : ByteArray), j ≤ k ∧ iv = .int .i64 j ∧ sv = .string X ∧ bs9 X = List.replicate j 40) (fun _ iv => k - (intOf iv).toNat)
  case atStart => exact ⟨0, ⟨#[]⟩, Nat.zero_le _, rfl, rfl, rfl⟩
  case round =>
    obtain ⟨j, X, hj, rfl, rfl, hX⟩ := hrel
    rcases Nat.lt_or_ge j k with h | h
    · obtain ⟨Y, hY, hadd⟩ := add_one hX (c := 40) (by decide) (by rw [List.length_replicate]; omega)
      have hadd2 : ∀ w, (Op.stringOp .add X ⟨#[40]⟩).run Tryz.prog w = .ok (.string Y) w := hadd
      rw [rep_one] at hY
      have HY := Lib.hid hY
      clear hX hY hadd
      go_wp2_with fail
      go_round
      case rel => exact ⟨j + 1, Y, by omega, by go_num, rfl, HY.out⟩
      case measure => simp [intOf]; omega
    · obtain rfl := (show k = j by omega)
      obtain ⟨Y, hY, hadd⟩ := add_one hX (c := 55) (by decide) (by rw [List.length_replicate]; omega)
      have hadd2 : ∀ w, (Op.stringOp .add X ⟨#[55]⟩).run Tryz.prog w = .ok (.string Y) w := hadd
      have HY := Lib.hid hY
      clear hX hY hadd h hj
      go_wp2_with fail
      go_loop [6, 29] (fun sv iv => ∃ (j : Nat) (X : ByteArray), j ≤ k ∧ iv = .int .i64 j ∧ sv = .string X ∧ bs9 X = List.replicate k 40 ++ (bod 7 0 ++ List.replicate j 41)) (fun _ iv => k - (intOf iv).toNat)
      case atStart => exact ⟨0, Y, Nat.zero_le _, rfl, rfl, by rw [HY.out, bod_seven]; rfl⟩
      case round =>
        obtain ⟨j, Z, hj, rfl, rfl, hZ⟩ := hrel
        rcases Nat.lt_or_ge j k with h | h
        · obtain ⟨V, hV, hadd⟩ := add_one hZ (c := 41) (by decide) (by rw [wdO_len]; omega)
          have hadd2 : ∀ w, (Op.stringOp .add Z ⟨#[41]⟩).run Tryz.prog w = .ok (.string V) w := hadd
          rw [List.append_assoc, List.append_assoc, rep_one] at hV
          have HV := Lib.hid hV
          clear hZ hV hadd HY
          go_wp2_with fail
          go_round
          case rel => exact ⟨j + 1, V, by omega, by go_num, rfl, HV.out⟩
          case measure => simp [intOf]; omega
        · obtain rfl := (show k = j by omega)
          have HZ := Lib.hid hZ
          clear hZ HY h hj
          have HZS : Hid (Z.size ≤ 1000) := by show _ ≤ _; rw [← bs9_len, HZ.out, wdO_len]; omega
          have HWD : Hid (Wds (bs9 Z) (usO k)) := by show Wds _ _; rw [HZ.out]; exact wds_opens (by omega)
          obtain ⟨M, hM⟩ : ∃ M, (usO k).length = M := ⟨_, rfl⟩
          have HUL := Lib.hid hM
          have hM2 : 2 * k + 1 = M := by rw [← hM, usO_len]
          clear hM
          rcases Nat.lt_or_ge 64 k with h64 | h64
          · have HEV : Hid (evl ((usO k).map tk) 0 = (0, 0, ((64 : Nat) : Int), 6)) := evl_inl (deep_bad (by decide) h64 rfl)
            have d64 : decide ((64 : Int) < (k : Int)) = true := decide_eq_true (by omega)
            go_wp2_with fail
            refine (words_us HOK.out HZS.out HWD.out).mono ?_; rintro e w1 ⟨A1, c1, L, rfl, hL, hr, hb⟩
            rw [HUL.out] at hr ⊢
            have E := Lib.hid ((St.start w (l := []) (by intro q hq; cases hq)).step hb)
            have R := Lib.hid hr
            have HL := Lib.hid hL
            clear hr hL hb
            go_wp2_with fail
            refine (evl13 (L := L) 0 R.out (Nat.le_refl _) (by omega) (by rw [HL.out]; exact tk_small (usO_small k)) (okw12 HOK.out E.out.bel)).mono ?_; rintro e w2 ⟨A2, n2, c2, rfl, hnum, hb⟩
            rw [HL.out, HEV.out] at hnum ⊢
            replace E := Lib.hid (E.out.push hb hnum)
            clear hb hnum R
            go_wp2_with fail
            have hb := (E.out.alloc (.cells #[.bool (ngB 0), .slice A2 n2 c2, .int .i64 ((0 : Nat) : Int)] 26)).bel
            refine (awake13 evl13 quo13 sts13 _ (okw12 HOK.out hb)).mono ?_; rintro e w3 ⟨rfl, hb3⟩
            go_wp2_with fail
            go_ret
            exact ⟨rfl, hb.trans (hb3.mono hb.size)⟩
          · have HEV : Hid (evl ((usO k).map tk) 0 = (7, 0, (M : Int), 0)) := by
              show _ = _
              have e := evl_inr (deep_ok (L := (usO k).map tk) h64 rfl)
              rw [List.length_map, HUL.out] at e; exact e
            have d64 : decide ((64 : Int) < (k : Int)) = false := decide_eq_false (by omega)
            go_wp2_with fail
            refine (words_us HOK.out HZS.out HWD.out).mono ?_; rintro e w1 ⟨A1, c1, L, rfl, hL, hr, hb⟩
            rw [HUL.out] at hr ⊢
            have E := Lib.hid ((St.start w (l := []) (by intro q hq; cases hq)).step hb)
            have R := Lib.hid hr
            have HL := Lib.hid hL
            clear hr hL hb
            go_wp2_with fail
            refine (evl13 (L := L) 0 R.out (Nat.le_refl _) (by omega) (by rw [HL.out]; exact tk_small (usO_small k)) (okw12 HOK.out E.out.bel)).mono ?_; rintro e w2 ⟨A2, n2, c2, rfl, hnum, hb⟩
            rw [HL.out, HEV.out] at hnum ⊢
            obtain ⟨x, hx⟩ : ∃ x : Int, 7 = x := ⟨_, rfl⟩
            obtain ⟨v, hv⟩ : ∃ v : Int, 7 = v := ⟨_, rfl⟩
            have HX := Lib.hid hx
            have HVV := Lib.hid hv
            rw [hx] at hnum ⊢
            clear hx hv
            replace E := Lib.hid (E.out.push hb hnum)
            clear hb hnum R
            go_wp2_with fail
            replace E := Lib.hid (E.out.lay (g := w2.heap.size) (x0 := .bool (ngB x)) (x1 := .slice A2 n2 c2) (x2 := .int .i64 ((0 : Nat) : Int)) (t := 26) rfl)
            obtain ⟨g2, hg2⟩ : ∃ g, w2.heap.size = g := ⟨_, rfl⟩
            rw [hg2] at E ⊢
            clear hg2
            generalize hV : World.alloc w2 _ = V2 at E ⊢
            clear hV
            refine (mk_is5 (i := v) (s := 0) _ HVV.out rfl (by rw [← HVV.out]; decide) (by decide)).mono ?_; rintro e w3 ⟨A3, n3, c3, rfl, hnum3, hb3⟩
            replace E := Lib.hid (E.out.push hb3 hnum3)
            clear hnum3 hb3
            go_wp2_with fail
            replace E := Lib.hid (E.out.lay (g := w3.heap.size) (x0 := .bool (ngB v)) (x1 := .slice A3 n3 c3) (x2 := .int .i64 ((0 : Nat) : Int)) (t := 26) rfl)
            obtain ⟨g3, hg3⟩ : ∃ g, w3.heap.size = g := ⟨_, rfl⟩
            rw [hg3] at E ⊢
            clear hg3
            generalize hV : World.alloc w3 _ = V3 at E ⊢
            clear hV
            refine (words_us (okw12 HOK.out E.out.bel) HZS.out HWD.out).mono ?_; rintro e w5 ⟨A5, c5, L5, rfl, -, -, hb⟩
            rw [HUL.out]
            replace E := Lib.hid (E.out.step hb)
            clear hb
            obtain ⟨p0, p1, p2, pf0, pf1, pf2, plt⟩ := St.at_ (x0 := .bool (ngB x)) (x1 := .slice A2 n2 c2) (x2 := .int .i64 ((0 : Nat) : Int)) (g := g2) E (by simp)
            obtain ⟨q0, q1, q2, qf0, qf1, qf2, qlt⟩ := St.at_ (x0 := .bool (ngB v)) (x1 := .slice A3 n3 c3) (x2 := .int .i64 ((0 : Nat) : Int)) (g := g3) E (by simp)
            go_wp2_with fail
            clear p0 p1 p2 pf0 pf1 pf2 plt
            clear q0 q1 q2 qf0 qf1 qf2 qlt
            refine (alike_is5 (i := x) (j := v) (s := 0) (t := 0) (St.got E (A := A2) (n := n2) (c := c2) (by simp)) (St.got E (A := A3) (n := n3) (c := c3) (by simp)) (alike_yes (HX.out.symm.trans HVV.out) rfl)).mono ?_; rintro e w6 ⟨rfl, hb⟩
            replace E := Lib.hid (E.out.step hb)
            clear hb
            go_wp2_with fail
            refine (awake13 evl13 quo13 sts13 _ (okw12 HOK.out E.out.bel)).mono ?_; rintro e w7 ⟨rfl, hb⟩
            replace E := Lib.hid (E.out.step hb)
            clear hb
            go_wp2_with fail
            go_ret
            exact ⟨rfl, E.out.bel⟩
theorem deep13_law {w : World} (hok : Ok12 w) (N : Nat) (hN : N ≤ 255) (b : Bool) : Calls Tryz.prog 5 #[.int .u8 (N : Int), .bool b] w (Ret9 w (.bool true)) := by
  cases b with
  | true => exact deep_minus hok N hN
  | false => exact deep_open hok N hN
end Go.Proofs.YtdpkbglfebimcaaGreatDoor.Num
