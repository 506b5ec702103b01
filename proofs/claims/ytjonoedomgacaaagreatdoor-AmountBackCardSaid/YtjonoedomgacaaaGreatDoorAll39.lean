/- What the proof needs, texts AmoMathB, AmoMathC, AmoMathD, AmoA, AmoB, AmoC, AmoMathE, AmoD, AmoE, AmoF, in one text. -/
import Derived.Test.YtjonoedomgacaaaGreatDoorAll37
import Derived.Test.YtjonoedomgacaaaGreatDoorAll38
import Derived.Test.YtjonoedomgacaaaGreatDoorAll36
import Derived.Test.YtjonoedomgacaaaGreatDoorAll29
import Derived.Deep.Cut
set_option linter.unusedVariables false
set_option linter.unusedSimpArgs false
set_option maxRecDepth 100000
set_option maxHeartbeats 32000000
namespace Go.Proofs.YtjonoedomgacaaaGreatDoor.Num
open Go.RowKit
def StQ (r : List Nat) : Prop := ∀ c, r.head? = some c → c = 44 ∨ c = 125 ∨ c = 32
theorem StQ.cur {r : List Nat} (h : StQ r) : StC r := fun c hc => by rcases h c hc with rfl | rfl | rfl <;> rfl
theorem StQ.dig {r : List Nat} (h : StQ r) : ∀ c, r.head? = some c → YtjonoedomgacaaaGreatDoor.dgB c = false := fun c hc => by rcases h c hc with rfl | rfl | rfl <;> rfl
theorem stq_nil : StQ [] := fun c hc => by cases hc
theorem bs9_nil {s : ByteArray} (h : bs9 s = []) : s = ⟨#[]⟩ := by rw [← st9_bs9 s, h]; rfl
def untW (u : Un) : List (Nat × List Nat) := (if u.has = true then tT u.i u.k else []) ++ [(3, bs9 u.cur)]
def Un.some (u : Un) : Prop := u.has = true ∨ bs9 u.cur ≠ []
instance (u : Un) : Decidable u.some := by unfold Un.some; infer_instance
theorem Un.none {u : Un} (h : u.ok) (hs : ¬ u.some) : u = Un.zero := by
 obtain ⟨a, i, k, s⟩ := u
 have h1 : bs9 s = [] := Decidable.byContradiction fun e => hs (.inr e)
 have h2 : a = false := by cases a with | false => rfl | true => exact absurd (.inl rfl) hs
 rcases h with ⟨-, g2, g3, -⟩ | ⟨-, g2, g3, -⟩ | ⟨g1, -⟩
 ·have e2 : i = 0 := g2
  have e3 : k = 0 := g3
  rw [h2, e2, e3, bs9_nil h1]; rfl
 ·have e2 : i = 0 := g2
  have e3 : k = 0 := g3
  rw [h2, e2, e3, bs9_nil h1]; rfl
 ·rw [h2] at g1; cases g1
theorem Un.curw {u : Un} (h : u.ok) (hs : u.some) : CurW (bs9 u.cur) := by
 rcases h with ⟨g1, -, -, g4⟩ | ⟨-, -, -, g4⟩ | ⟨-, g4⟩
 ·rcases hs with e | e
  ·rw [g1] at e; cases e
  ·exact absurd g4 e
 ·exact g4
 ·exact g4
theorem Un.plain {u : Un} (h : u.ok) (hs : u.has = false) : u = ⟨false, 0, 0, u.cur⟩ := by
 obtain ⟨a, i, k, s⟩ := u
 have h2 : a = false := hs
 rcases h with ⟨-, g2, g3, -⟩ | ⟨-, g2, g3, -⟩ | ⟨g1, -⟩
 ·have e2 : i = 0 := g2
  have e3 : k = 0 := g3
  rw [h2, e2, e3]
 ·have e2 : i = 0 := g2
  have e3 : k = 0 := g3
  rw [h2, e2, e3]
 ·rw [hs] at g1; cases g1
theorem wds_unt {u : Un} (hu : u.ok) (hs : u.some) {r : List Nat} {us : List (Nat × List Nat)} (hr : StC r) (h : Wds r us) : Wds (untT u ++ r) (untW u ++ us) := by
 have hc := Un.curw hu hs
 unfold untT untW
 split
 ·unfold amtT
  rw [List.append_assoc, List.append_assoc]
  exact wds_dec _ _ (fol_blank _) (wds_blank (wds_cur hc hr h))
 ·exact wds_cur hc hr h
theorem untT_none {u : Un} (hs : ¬ u.some) : untT u = [] := by
 unfold untT
 rw [if_neg (fun e => hs (.inl e))]
 exact Decidable.byContradiction fun e => hs (.inr e)
theorem dig_head : ∀ n, n < 10 → YtjonoedomgacaaaGreatDoor.dgB (Dat.dg8 n).toNat = true := by decide
theorem day_told {d : Int × Int × Int} (h : Dat.ok8 d.1 d.2.1 d.2.2 = true) : D12 (dayT d) = true ∧ (∃ c u, dayT d = c :: u ∧ YtjonoedomgacaaaGreatDoor.dgB c = true) ∧ pday (st9 (dayT d)) = d ∧ dayT d ≠ [] := by
 obtain ⟨h1, h2, h3, h4, h5⟩ := Dat.told_day h
 have hp : Dat.prOk (Dat.text8 d.1 d.2.1 d.2.2) = true := by unfold Dat.prOk; rw [h2, h3, h4, h5, h]; rfl
 have hl : (dayT d).length = 10 := by unfold dayT; rw [bs9_len]; exact h1
 refine ⟨by unfold dayT; rw [d12_is]; exact hp, ?_, ?_, by intro e; rw [e] at hl; cases hl⟩
 ·unfold dayT
  rw [Dat.text8_ok h]
  exact ⟨_, _, rfl, dig_head _ (Nat.mod_lt _ (by decide))⟩
 ·unfold dayT pday
  rw [st9_bs9, if_pos hp, h3, h4, h5]
theorem tk_ne {k : Nat} {x : List Nat} {m : Int} (h : (k : Int) ≠ m) : (tk (k, x)).1 ≠ m := h
section
variable {L : List Tok} {a b : Nat} {Q : List Tok} {u : Un} {c : Co}
theorem cur_end {x : List Nat} : ∀ cc, isg (tk (3, x)) cc = false := fun cc => by
 unfold isg
 rw [decide_eq_false (tk_ne (by decide))]; rfl
theorem amt_told {i : Int} {k : Nat} {x : List Nat} (h : L.drop a = (tT i k).map tk ++ (tk (3, x) :: Q)) : amt L a = .inr (i, k, st9 x, a + (tT i k).length + 1) := by
 have f0 := fac_val (d := 0) h (by decide)
 have h1 := dr_app h rfl
 rw [List.length_map] at f0 h1
 have i1 : ∀ cc, isAt L (a + (tT i k).length) cc = false := fun cc => by rw [dr_is h1]; exact cur_end cc
 have P0 : PRO L 0 a = .inr (i, k, a + (tT i k).length) := by rw [PRO_go f0, PROL_end (i1 _) (i1 _)]
 have S0 : SUM L 0 a = .inr (i, k, a + (tT i k).length) := by rw [SUM_go P0, SUML_end (i1 _) (i1 _)]
 unfold amt
 rw [S0]
 dsimp only
 rw [dr_get h1]
 rfl
theorem sta_tT {i : Int} {k : Nat} {Q : List Tok} (h : L.drop a = (tT i k).map tk ++ Q) : ∃ t, L[a]? = some t ∧ t.1 ≠ 1 ∧ t.1 ≠ 5 ∧ t.1 ≠ 3 ∧ sta t = true := by
 unfold tT at h
 split at h
 ·have h0 : L.drop a = tk (10, [45]) :: (tk (4, bod i.natAbs k) :: Q) := h
  refine ⟨_, dr_get h0, tk_ne (by decide), tk_ne (by decide), tk_ne (by decide), ?_⟩
  unfold sta
  rw [isg_tk 45 45 (by decide)]
  simp
 ·have h0 : L.drop a = tk (4, bod i.natAbs k) :: Q := h
  exact ⟨_, dr_get h0, tk_ne (by decide), tk_ne (by decide), tk_ne (by decide), rfl⟩
theorem unt_told (hu : u.ok) (hs : u.some) (h : L.drop a = (untW u).map tk ++ Q) : unt L a = .inr (u, a + (untW u).length) := by
 unfold untW at h ⊢
 cases hb : u.has with
 | true =>
  rw [hb, if_pos rfl, List.map_append, List.append_assoc] at h
  obtain ⟨t, g0, g1, g2, g3, g4⟩ := sta_tT h
  have g5 := amt_told h
  unfold unt
  rw [g0]
  dsimp only
  rw [if_neg g3, g4, if_neg (by decide), g5]
  dsimp only
  rw [if_pos rfl, st9_bs9, List.length_append, ← hb]
  rfl
 | false =>
  rw [hb, if_neg (by decide)] at h
  have h0 : L.drop a = tk (3, bs9 u.cur) :: Q := h
  unfold unt
  rw [dr_get h0]
  dsimp only
  rw [if_pos (show (tk (3, bs9 u.cur)).1 = 3 from rfl), if_neg (by decide)]
  have e := Un.plain hu hb
  show (Sum.inr ((⟨false, 0, 0, st9 (bs9 u.cur)⟩ : Un), a + 1) : (Nat × Nat) ⊕ (Un × Nat)) = _
  rw [st9_bs9, ← e]
  rfl
theorem itm_unt (hu : u.ok) (hs : u.some) (hc : c.un = Un.zero) (h : L.drop a = (untW u).map tk ++ Q) : itm L c a = .inr (⟨c.tot, u, c.day, c.lab⟩, a + (untW u).length) := by
 have hz : bs9 c.un.cur = [] := by rw [hc]; rfl
 unfold untW at h ⊢
 cases hb : u.has with
 | true =>
  rw [hb, if_pos rfl, List.map_append, List.append_assoc] at h
  obtain ⟨t, g0, g1, g2, g3, g4⟩ := sta_tT h
  have g5 := amt_told h
  unfold itm
  rw [g0]
  dsimp only
  rw [if_neg (fun e => g1 e.1), if_neg (fun e => g2 e.1), if_neg (fun e => g3 e.1), if_pos ⟨g4, hz⟩, g5]
  dsimp only
  rw [if_pos rfl, st9_bs9, List.length_append, ← hb]
  rfl
 | false =>
  rw [hb, if_neg (by decide)] at h
  have h0 : L.drop a = tk (3, bs9 u.cur) :: Q := h
  unfold itm
  rw [dr_get h0]
  dsimp only
  rw [if_neg (fun e => absurd e.1 (tk_ne (by decide))), if_neg (fun e => absurd e.1 (tk_ne (by decide))), if_pos ⟨rfl, hz⟩, if_neg (by decide)]
  have e := Un.plain hu hb
  rw [hc]
  show (Sum.inr ((⟨c.tot, ⟨false, 0, 0, st9 (bs9 u.cur)⟩, c.day, c.lab⟩ : Co), a + 1) : (Nat × Nat) ⊕ (Co × Nat)) = _
  rw [st9_bs9, ← e]
  rfl
theorem itm_day {d : Int × Int × Int} (hd : Dat.ok8 d.1 d.2.1 d.2.2 = true) (hc : c.day = (0, 0, 0)) (h : L.drop a = tk (1, dayT d) :: Q) : itm L c a = .inr (⟨c.tot, c.un, d, c.lab⟩, a + 1) := by
 unfold itm
 rw [dr_get h]
 dsimp only
 rw [if_pos ⟨rfl, hc⟩]
 show (Sum.inr ((⟨c.tot, c.un, pday (st9 (dayT d)), c.lab⟩ : Co), a + 1) : (Nat × Nat) ⊕ (Co × Nat)) = _
 rw [(day_told hd).2.2.1]
theorem itm_lab {s : ByteArray} (hl : bs9 s ≠ []) (hc : bs9 c.lab = []) (h : L.drop a = tk (5, bs9 s) :: Q) : itm L c a = .inr (⟨c.tot, c.un, c.day, s⟩, a + 1) := by
 unfold itm
 rw [dr_get h]
 dsimp only
 have e : bs9 (tk (5, bs9 s)).2 = bs9 s := by show bs9 (st9 (bs9 s)) = _; rw [st9_bs9]
 rw [if_neg (fun e => absurd e.1 (tk_ne (by decide))), if_pos ⟨rfl, hc, by rw [e]; exact hl⟩]
 show (Sum.inr ((⟨c.tot, c.un, c.day, st9 (bs9 s)⟩ : Co), a + 1) : (Nat × Nat) ⊕ (Co × Nat)) = _
 rw [st9_bs9]
end
structure Pt where
 t : List Nat
 w : List (Nat × List Nat)
 f : Co → Co
def jnP : List Pt → List (Nat × List Nat)
 | [] => []
 | [p] => p.w
 | p :: q :: r => p.w ++ (10, [44]) :: jnP (q :: r)
def Pt.told (p : Pt) : Prop := (∀ {r : List Nat} {us : List (Nat × List Nat)}, StQ r → Wds r us → Wds (p.t ++ r) (p.w ++ us)) ∧ ∃ c u, p.t = c :: u ∧ c ≠ 123 ∧ c ≠ 32
theorem wds_parts : ∀ (P : List Pt) {r : List Nat} {us : List (Nat × List Nat)}, (∀ p ∈ P, p.told) → StQ r → Wds r us → Wds (jnT (P.map (·.t)) ++ r) (jnP P ++ us)
 | [], _, _, _, _, h => h
 | [p], _, _, hp, hr, h => (hp p List.mem_cons_self).1 hr h
 | p :: q :: l, r, us, hp, hr, h => by
  have ih := wds_parts (q :: l) (fun x hx => hp x (List.mem_cons_of_mem _ hx)) hr h
  show Wds ((p.t ++ 44 :: 32 :: jnT ((q :: l).map (·.t))) ++ r) ((p.w ++ (10, [44]) :: jnP (q :: l)) ++ us)
  rw [List.append_assoc, List.append_assoc]
  refine (hp p List.mem_cons_self).1 (fun c hc => .inl (Option.some.inj hc).symm) ?_
  exact wds_one (.inl rfl) (by intro e; cases e) (wds_blank ih)
theorem jn_head : ∀ {P : List Pt} {r : List Nat}, (∀ p ∈ P, p.told) → r.head? ≠ some 123 → (jnT (P.map (·.t)) ++ r).head? ≠ some 123
 | [], _, _, hr => hr
 | [p], r, hp, _ => by
  obtain ⟨c, u, e, h1, -⟩ := (hp p List.mem_cons_self).2
  show (p.t ++ r).head? ≠ _
  rw [e]
  intro e2; exact h1 (Option.some.inj e2)
 | p :: q :: l, r, hp, _ => by
  obtain ⟨c, u, e, h1, -⟩ := (hp p List.mem_cons_self).2
  show ((p.t ++ 44 :: 32 :: jnT ((q :: l).map (·.t))) ++ r).head? ≠ _
  rw [e]
  intro e2; exact h1 (Option.some.inj e2)
def Rds : List Pt → Co → Prop
 | [], _ => True
 | p :: r, c => (∀ {L : List Tok} {a : Nat} {Q : List Tok}, L.drop a = p.w.map tk ++ Q → itm L c a = .inr (p.f c, a + p.w.length)) ∧ (p.f c).tot = c.tot ∧ Rds r (p.f c)
theorem isW_tk {L Q : List Tok} {a : Nat} {x : List Nat} (h : L.drop a = tk (10, x) :: Q) (hx : ∀ c ∈ x, c < 256) (y : List Nat) : isW L a y = decide (x = y) := by
 unfold isW
 rw [dr_get h]
 have : bs9 (tk (10, x)).2 = x := bs9_st9 hx
 show (decide ((tk (10, x)).1 = 10) && decide (bs9 (tk (10, x)).2 = y)) = _
 rw [this, decide_eq_true (show (tk (10, x)).1 = 10 from rfl), Bool.true_and]
theorem isW_kind {L Q : List Tok} {a k : Nat} {x : List Nat} (h : L.drop a = tk (k, x) :: Q) (hk : (k : Int) ≠ 10) (y : List Nat) : isW L a y = false := by
 unfold isW
 rw [dr_get h]
 show (decide ((tk (k, x)).1 = 10) && _) = _
 rw [decide_eq_false (tk_ne hk)]; rfl
theorem shut_lt (m : Bool) : ∀ c ∈ shutC m, c < 256 := by cases m <;> decide
theorem opn_lt (m : Bool) : ∀ c ∈ opnC m, c < 256 := by cases m <;> decide
theorem len_of {L : List Tok} {a : Nat} {t : Tok} (h : L.drop a = [t]) : a + 1 = L.length := by
 have := congrArg List.length h
 rw [List.length_drop, List.length_singleton] at this
 omega
theorem cstL_told {L : List Tok} : ∀ (P : List Pt) {f : Nat} {c : Co} {a : Nat}, P ≠ [] → P.length ≤ f → Rds P c → L.drop a = (jnP P).map tk ++ [tk (10, shutC c.tot)] → cstL L f c a = .inr (P.foldl (fun e p => p.f e) c, L.length)
 | [], _, _, _, h, _, _, _ => absurd rfl h
 | [p], f, c, a, _, hf, hr, h => by
  obtain ⟨g1, g2, -⟩ := hr
  obtain ⟨f, rfl⟩ : ∃ m, f = m + 1 := ⟨f - 1, by simp at hf; omega⟩
  have h1 := g1 h
  have h2 : L.drop (a + p.w.length) = [tk (10, shutC c.tot)] := dr_app h (List.length_map tk)
  rw [cstL, h1]
  dsimp only
  rw [g2, if_pos (by rw [isW_tk h2 (shut_lt _)]; exact decide_eq_true rfl), len_of h2]
  rfl
 | p :: q :: l, f, c, a, _, hf, hr, h => by
  obtain ⟨g1, g2, g3⟩ := hr
  obtain ⟨f, rfl⟩ : ∃ m, f = m + 1 := ⟨f - 1, by simp at hf; omega⟩
  have h0 : L.drop a = p.w.map tk ++ (tk (10, [44]) :: ((jnP (q :: l)).map tk ++ [tk (10, shutC c.tot)])) := by
   rw [h]
   show (p.w ++ (10, [44]) :: jnP (q :: l)).map tk ++ _ = _
   rw [List.map_append, List.map_cons, List.append_assoc]; rfl
  have h1 := g1 h0
  have h2 := dr_app h0 (List.length_map tk)
  have h3 := dr_one h2
  have h4 : ∀ y, isW L (a + p.w.length) y = decide ([44] = y) := isW_tk h2 (by decide)
  rw [cstL, h1]
  dsimp only
  rw [h4, if_neg (by unfold shutC; split <;> decide), h4, if_pos (by decide)]
  rw [← g2] at h3
  exact cstL_told (q :: l) (by intro e; cases e) (by simp at hf ⊢; omega) g3 h3
def parts (c : Co) : List Pt := (if c.un.has = true ∨ bs9 c.un.cur ≠ [] then [⟨untT c.un, untW c.un, fun e => ⟨e.tot, c.un, e.day, e.lab⟩⟩] else []) ++
 ((if dayT c.day ≠ [] then [⟨dayT c.day, [(1, dayT c.day)], fun e => ⟨e.tot, e.un, c.day, e.lab⟩⟩] else []) ++
 (if bs9 c.lab ≠ [] then [⟨qt (bs9 c.lab), [(5, bs9 c.lab)], fun e => ⟨e.tot, e.un, e.day, c.lab⟩⟩] else []))
theorem parts_text (c : Co) : prtT c = (parts c).map (·.t) := by
 unfold prtT parts
 split <;> split <;> split <;> rfl
theorem day_none : dayT (0, 0, 0) = [] := by kernel_rfl
section
variable {c : Co} (hc : c.ok)
include hc
theorem day_ok (h : dayT c.day ≠ []) : Dat.ok8 c.day.1 c.day.2.1 c.day.2.2 = true := by
 rcases hc.2 with e | e
 ·rw [e] at h; exact absurd day_none h
 ·exact e
theorem day_no (h : ¬ dayT c.day ≠ []) : c.day = (0, 0, 0) := by
 rcases hc.2 with e | e
 ·exact e
 ·exact absurd (day_told e).2.2.2 h
theorem parts_told : ∀ p ∈ parts c, p.told := by
 intro p hp
 unfold parts at hp
 rcases List.mem_append.1 hp with hp | hp
 ·split at hp
  ·rename_i hs
   obtain rfl := List.mem_singleton.1 hp
   refine ⟨fun hr h => wds_unt hc.1 hs hr.cur h, ?_⟩
   show ∃ d u, untT c.un = d :: u ∧ _
   unfold untT
   split
   ·unfold amtT
    rw [txtD_bod]
    obtain ⟨d, t, e, hd⟩ := bod_head c.un.i.natAbs c.un.k
    have hd2 : 48 ≤ d ∧ d ≤ 57 := by unfold YtjonoedomgacaaaGreatDoor.dgB at hd; simpa using hd
    unfold sgT
    split
    ·exact ⟨_, _, rfl, by decide, by decide⟩
    ·rw [e]; exact ⟨_, _, rfl, by omega, by omega⟩
   ·obtain ⟨⟨d, u, e, hd⟩, -⟩ := Un.curw hc.1 hs
    have := up_of hd
    exact ⟨d, u, e, by omega, by omega⟩
  ·cases hp
 ·rcases List.mem_append.1 hp with hp | hp
  ·split at hp
   ·rename_i hd
    obtain rfl := List.mem_singleton.1 hp
    obtain ⟨g1, ⟨d, u, g2, g3⟩, -, -⟩ := day_told (day_ok hc hd)
    have hd2 : 48 ≤ d ∧ d ≤ 57 := by unfold YtjonoedomgacaaaGreatDoor.dgB at g3; simpa using g3
    exact ⟨fun hr h => wds_day g1 ⟨d, u, g2, g3⟩ hr.dig h, d, u, g2, by omega, by omega⟩
   ·cases hp
  ·split at hp
   ·obtain rfl := List.mem_singleton.1 hp
    exact ⟨fun hr h => wds_text _ h, 34, _, rfl, by decide, by decide⟩
   ·cases hp
theorem parts_read : Rds (parts c) (Co.start c.tot) ∧ (parts c).foldl (fun e p => p.f e) (Co.start c.tot) = c := by
 obtain ⟨m, u, d, s⟩ := c
 have hU : ∀ {e : Co}, u.some → e.un = Un.zero → ∀ {L : List Tok} {a : Nat} {Q : List Tok}, L.drop a = (untW u).map tk ++ Q → itm L e a = .inr (⟨e.tot, u, e.day, e.lab⟩, a + (untW u).length) := fun {e} hs he {L a Q} h => itm_unt hc.1 hs he h
 have hD : ∀ {e : Co}, dayT d ≠ [] → e.day = (0, 0, 0) → ∀ {L : List Tok} {a : Nat} {Q : List Tok}, L.drop a = [(1, dayT d)].map tk ++ Q → itm L e a = .inr (⟨e.tot, e.un, d, e.lab⟩, a + [(1, dayT d)].length) := fun {e} hs he {L a Q} h => itm_day (day_ok hc hs) he h
 have hS : ∀ {e : Co}, bs9 s ≠ [] → bs9 e.lab = [] → ∀ {L : List Tok} {a : Nat} {Q : List Tok}, L.drop a = [(5, bs9 s)].map tk ++ Q → itm L e a = .inr (⟨e.tot, e.un, e.day, s⟩, a + [(5, bs9 s)].length) := fun {e} hs he {L a Q} h => itm_lab hs he h
 have zU : ¬ u.some → u = Un.zero := Un.none hc.1
 have zD : ¬ dayT d ≠ [] → d = (0, 0, 0) := day_no hc
 have zS : ¬ bs9 s ≠ [] → s = ⟨#[]⟩ := fun h => bs9_nil (Decidable.byContradiction h)
 unfold parts
 by_cases h1 : u.some <;> by_cases h2 : dayT d ≠ [] <;> by_cases h3 : bs9 s ≠ []
 all_goals (have h1' := h1; unfold Un.some at h1')
 all_goals first | rw [if_pos h1'] | rw [if_neg h1']
 all_goals first | rw [if_pos h2] | rw [if_neg h2]
 all_goals first | rw [if_pos h3] | rw [if_neg h3]
 ·exact ⟨⟨hU h1 rfl, rfl, hD h2 rfl, rfl, hS h3 rfl, rfl, trivial⟩, rfl⟩
 ·exact ⟨⟨hU h1 rfl, rfl, hD h2 rfl, rfl, trivial⟩, by rw [zS h3]; rfl⟩
 ·exact ⟨⟨hU h1 rfl, rfl, hS h3 rfl, rfl, trivial⟩, by rw [zD h2]; rfl⟩
 ·exact ⟨⟨hU h1 rfl, rfl, trivial⟩, by rw [zD h2, zS h3]; rfl⟩
 ·exact ⟨⟨hD h2 rfl, rfl, hS h3 rfl, rfl, trivial⟩, by rw [zU h1]; rfl⟩
 ·exact ⟨⟨hD h2 rfl, rfl, trivial⟩, by rw [zU h1, zS h3]; rfl⟩
 ·exact ⟨⟨hS h3 rfl, rfl, trivial⟩, by rw [zU h1, zD h2]; rfl⟩
 ·exact ⟨trivial, by rw [zU h1, zD h2, zS h3]; rfl⟩
def cstW (c : Co) : List (Nat × List Nat) := (10, opnC c.tot) :: (jnP (parts c) ++ [(10, shutC c.tot)])
omit hc in
theorem wds_shut (m : Bool) : Wds (shutC m) [(10, shutC m)] := by
 cases m
 ·exact wds_one (.inr (.inr (.inl rfl))) (by intro e; cases e) wds_nil
 ·exact wds_two (.inr (.inl rfl)) wds_nil
omit hc in
theorem stq_shut (m : Bool) : StQ (shutC m) := fun c h => by cases m <;> exact .inr (.inl (Option.some.inj h).symm)
theorem wds_cst : Wds (cstT c) (cstW c) := by
 have hp := parts_told hc
 have h := wds_parts (parts c) hp (stq_shut c.tot) (wds_shut c.tot)
 have hh := jn_head (r := shutC c.tot) hp (by unfold shutC; split <;> (intro e; cases e))
 unfold cstT cstW
 rw [parts_text]
 generalize jnT ((parts c).map (·.t)) ++ shutC c.tot = r at h hh
 unfold opnC
 split
 ·exact wds_two (.inl rfl) h
 ·exact wds_one (.inr (.inl rfl)) hh h
theorem cst_told {L : List Tok} (hL : L = (cstW c).map tk) : cst L 0 = .inr (some c, L.length) := by
 have h0 : L.drop 0 = tk (10, opnC c.tot) :: ((jnP (parts c)).map tk ++ [tk (10, shutC c.tot)]) := by
  rw [hL, List.drop_zero]; unfold cstW; rw [List.map_cons, List.map_append]; rfl
 have h1 := dr_one h0
 have i0 : ∀ y, isW L 0 y = decide (opnC c.tot = y) := isW_tk h0 (opn_lt _)
 obtain ⟨r1, r2⟩ := parts_read hc
 have hm : isW L 0 [123, 123] = c.tot := by rw [i0]; unfold opnC; cases c.tot <;> rfl
 have ho : isW L 0 [123, 123] = true ∨ isW L 0 [123] = true := by rw [i0, i0]; unfold opnC; cases c.tot <;> decide
 have hB : cstB L c.tot (0 + 1) = .inr (c, L.length) := by
  unfold cstB
  by_cases hP : parts c = []
  ·rw [hP] at h1 r2
   have h2 : L.drop (0 + 1) = [tk (10, shutC c.tot)] := h1
   rw [if_pos (by rw [isW_tk h2 (shut_lt _)]; exact decide_eq_true rfl), len_of h2, show Co.start c.tot = c from r2]
  ·have hn : isW L (0 + 1) (shutC c.tot) = false := by
    have hpw : ∀ p ∈ parts c, ∃ x r, p.w = x :: r ∧ ((x.1 : Int) ≠ 10 ∨ x = (10, [45])) := by
     intro p hp
     unfold parts at hp
     rcases List.mem_append.1 hp with hp | hp
     ·split at hp
      ·obtain rfl := List.mem_singleton.1 hp
       show ∃ x r, untW c.un = x :: r ∧ _
       unfold untW tT
       split
       ·split
        ·exact ⟨_, _, rfl, .inr rfl⟩
        ·exact ⟨_, _, rfl, .inl (by show ((4 : Nat) : Int) ≠ 10; decide)⟩
       ·exact ⟨_, _, rfl, .inl (by show ((3 : Nat) : Int) ≠ 10; decide)⟩
      ·cases hp
     ·rcases List.mem_append.1 hp with hp | hp
      ·split at hp
       ·obtain rfl := List.mem_singleton.1 hp
        exact ⟨_, _, rfl, .inl (by show ((1 : Nat) : Int) ≠ 10; decide)⟩
       ·cases hp
      ·split at hp
       ·obtain rfl := List.mem_singleton.1 hp
        exact ⟨_, _, rfl, .inl (by show ((5 : Nat) : Int) ≠ 10; decide)⟩
       ·cases hp
    obtain ⟨p, l, hp⟩ := List.exists_cons_of_ne_nil hP
    obtain ⟨x, r, e, hx⟩ := hpw p (by rw [hp]; exact List.mem_cons_self)
    have hj : ∃ z, jnP (parts c) = x :: z := by
     rw [hp]
     cases l with
     | nil => exact ⟨r, e⟩
     | cons q l => exact ⟨r ++ (10, [44]) :: jnP (q :: l), by show p.w ++ _ = _; rw [e]; rfl⟩
    obtain ⟨z, hj⟩ := hj
    rw [hj] at h1
    have h2 : L.drop (0 + 1) = tk x :: (z.map tk ++ [tk (10, shutC c.tot)]) := h1
    rcases hx with hx | hx
    ·exact isW_kind (k := x.1) (x := x.2) h2 hx _
    ·rw [hx] at h2
     rw [isW_tk h2 (by decide)]
     unfold shutC; split <;> rfl
   rw [if_neg (by rw [hn]; decide)]
   have hl : (parts c).length ≤ L.length + 1 := by
    have : (parts c).length ≤ 3 := by unfold parts; split <;> split <;> split <;> simp
    have h3 := congrArg List.length h1
    rw [List.length_drop, List.length_append, List.length_singleton] at h3
    have h4 : 1 ≤ L.length := by rw [hL]; unfold cstW; simp
    have h5 : (parts c).length ≤ (jnP (parts c)).length + 1 := by
     generalize parts c = P
     induction P with
     | nil => exact Nat.zero_le _
     | cons p l ih =>
      cases l with
      | nil => simp
      | cons q l =>
       show (q :: l).length + 1 ≤ (p.w ++ (10, [44]) :: jnP (q :: l)).length + 1
       rw [List.length_append]
       have e1 : ((10, [44]) :: jnP (q :: l)).length = (jnP (q :: l)).length + 1 := rfl
       omega
    rw [List.length_map] at h3
    omega
   have := cstL_told (parts c) hP hl r1 h1
   rw [r2] at this
   exact this
 unfold cst
 rw [if_pos ho, hm, hB]
end
def unW (u : Un) : List (Nat × List Nat) := if u.has = true ∨ bs9 u.cur ≠ [] then untW u else []
theorem wds_units {u : Un} (hu : u.ok) : Wds (untT u) (unW u) := by
 unfold unW
 split
 ·rename_i hs
  have := wds_unt hu hs stq_nil.cur wds_nil
  rw [List.append_nil, List.append_nil] at this
  exact this
 ·rename_i hs
  rw [untT_none hs]; exact wds_nil
theorem unt_back {u : Un} (hu : u.ok) {L : List Tok} {a : Nat} (h : L.drop a = (unW u).map tk) (ha : a ≤ L.length) : unt L a = .inr (u, L.length) := by
 have hl := congrArg List.length h
 rw [List.length_drop, List.length_map] at hl
 unfold unW at h hl
 split at h
 ·rename_i hs
  rw [if_pos hs] at hl
  rw [unt_told hu hs (Q := []) (by rw [h, List.append_nil]), ← hl]
  congr 2; omega
 ·rename_i hs
  rw [if_neg hs] at hl
  have h1 : L[a]? = none := List.getElem?_eq_none (List.drop_eq_nil_iff.1 h)
  unfold unt
  rw [h1, Un.none hu hs]
  have h2 : L.length - a = 0 := hl
  have h3 : a = L.length := by omega
  rw [h3]
def prcW (p : Bool × Un) : List (Nat × List Nat) := (10, if p.1 = true then [64, 64] else [64]) :: unW p.2
theorem wds_prc {p : Bool × Un} (hu : p.2.ok) : Wds (prcT p) (prcW p) := by
 have h := wds_units hu
 have h2 : Wds (if untT p.2 ≠ [] then 32 :: untT p.2 else []) (unW p.2) := by
  split
  ·exact wds_blank h
  ·rename_i e
   rw [Decidable.byContradiction e] at h; exact h
 have hh : (if untT p.2 ≠ [] then 32 :: untT p.2 else []).head? ≠ some 64 := by
  split
  ·intro e; cases e
  ·intro e; cases e
 unfold prcT prcW
 generalize (if untT p.2 ≠ [] then 32 :: untT p.2 else []) = r at h2 hh
 split
 ·exact wds_two (.inr (.inr rfl)) h2
 ·exact wds_one (.inr (.inr (.inr rfl))) hh h2
theorem prc_told {p : Bool × Un} (hu : p.2.ok) {L : List Tok} (hL : L = (prcW p).map tk) : prc L 0 = .inr (some p, L.length) := by
 have h0 : L.drop 0 = tk (10, if p.1 = true then [64, 64] else [64]) :: (unW p.2).map tk := by rw [hL]; rfl
 have h1 := dr_one h0
 have i0 : ∀ y, isW L 0 y = decide ((if p.1 = true then [64, 64] else [64]) = y) := isW_tk h0 (by split <;> decide)
 have hm : isW L 0 [64, 64] = p.1 := by rw [i0]; cases p.1 <;> rfl
 have ho : isW L 0 [64, 64] = true ∨ isW L 0 [64] = true := by rw [i0, i0]; cases p.1 <;> decide
 unfold prc
 rw [if_pos ho, unt_back hu h1 (by rw [hL]; unfold prcW; simp), hm]
theorem txtD_len {i : Int} {k K : Nat} (h : Sz i k K) : (txtD i k).length ≤ K + k + 3 := by
 have h1 : nd (i.natAbs / 10 ^ k) ≤ K + 1 := by
  refine nd_le_of_lt K ?_
  unfold Sz at h
  rw [Nat.pow_add] at h
  refine Nat.lt_of_lt_of_le ((Nat.div_lt_iff_lt_mul (Nat.pow_pos (by omega))).2 h) (Nat.pow_le_pow_right (by omega) (by omega))
 have h2 : (beh k i.natAbs).length ≤ k + 1 := by
  unfold beh
  split
  ·exact Nat.zero_le _
  ·rw [List.length_cons, pad_len]; exact Nat.le_refl _
 have h3 : (sgT i).length ≤ 1 := by unfold sgT; split <;> decide
 have h4 : (txt (i.natAbs / 10 ^ k)).length = nd (i.natAbs / 10 ^ k) := rfl
 rw [txtD_bod, List.length_append]
 unfold bod
 rw [List.length_append]
 omega
def FewL (L : List Tok) : Prop := L.length ≤ 60 ∧ ∀ t ∈ L, t.2.size ≤ 30
def UnS (u : Un) : Prop := Sz u.i u.k 1220 ∧ u.k ≤ 1220 ∧ (bs9 u.cur).length ≤ 30
def CoS (c : Co) : Prop := UnS c.un ∧ (bs9 c.lab).length ≤ 30
theorem sz_zero (k : Nat) : Sz 0 0 k := Nat.pow_pos (by omega)
theorem zero_small : UnS Un.zero := ⟨sz_zero _, Nat.zero_le _, Nat.zero_le _⟩
section
variable {L : List Tok} (hL : FewL L) {a b k : Nat} {i : Int} {x : ByteArray} {u : Un} {c c' : Co} {m : Bool}
include hL
theorem few_get {t : Tok} (h : L[a]? = some t) : (bs9 t.2).length ≤ 30 := by rw [bs9_len]; exact hL.2 t (List.mem_of_getElem? h)
theorem amt_small (h : amt L a = .inr (i, k, x, b)) : UnS ⟨true, i, k, x⟩ := by
 unfold amt at h
 split at h
 ·cases h
 ·rename_i hs
  split at h
  ·cases h
  ·rename_i ht
   split at h
   ·cases h
    obtain ⟨g1, g2, g3, g4⟩ := SUM_grt hL.2 hs
    have := hL.1
    exact ⟨g3.mono (by omega), by show k ≤ _; omega, few_get hL ht⟩
   ·cases h
theorem unt_small (h : unt L a = .inr (u, b)) : UnS u := by
 unfold unt at h
 split at h
 ·cases h; exact zero_small
 ·rename_i ht
  split at h
  ·cases h
   exact ⟨sz_zero _, Nat.zero_le _, few_get hL ht⟩
  ·split at h
   ·cases h; exact zero_small
   ·split at h
    ·cases h
    ·rename_i ha
     cases h
     exact amt_small hL ha
theorem itm_small (hc : CoS c) (h : itm L c a = .inr (c', b)) : CoS c' := by
 unfold itm at h
 split at h
 ·cases h
 ·rename_i t ht
  split at h
  ·cases h; exact ⟨hc.1, hc.2⟩
  ·split at h
   ·cases h; exact ⟨hc.1, few_get hL ht⟩
   ·split at h
    ·cases h; exact ⟨⟨hc.1.1, hc.1.2.1, few_get hL ht⟩, hc.2⟩
    ·split at h
     ·split at h
      ·cases h
      ·rename_i ha
       cases h
       exact ⟨amt_small hL ha, hc.2⟩
     ·cases h
theorem cstL_small : ∀ (f : Nat) {c : Co} {a : Nat}, CoS c → cstL L f c a = .inr (c', b) → CoS c' := by
 intro f
 induction f with
 | zero => intro c a _ h; rw [cstL] at h; cases h
 | succ f ih =>
  intro c a hc h
  rw [cstL] at h
  split at h
  ·cases h
  ·rename_i hi
   have g := itm_small hL hc hi
   split at h
   ·cases h; exact g
   ·split at h
    ·exact ih g h
    ·cases h
theorem cst_small (h : cst L a = .inr (some c, b)) : CoS c := by
 unfold cst at h
 split at h
 ·split at h
  ·cases h
  ·rename_i hb
   cases h
   unfold cstB at hb
   split at hb
   ·cases hb; exact ⟨zero_small, Nat.zero_le _⟩
   ·exact cstL_small hL _ ⟨zero_small, Nat.zero_le _⟩ hb
 ·cases h
theorem prc_small (h : prc L a = .inr (some (m, u), b)) : UnS u := by
 unfold prc at h
 split at h
 ·split at h
  ·cases h
  ·rename_i hb
   cases h
   exact unt_small hL hb
 ·cases h
end
theorem untT_len {u : Un} (h : UnS u) : (untT u).length ≤ 2474 := by
 have h1 := txtD_len h.1
 have h2 := h.2.1
 have h3 := h.2.2
 unfold untT
 split
 ·unfold amtT
  rw [List.length_append, List.length_cons]
  omega
 ·omega
theorem dayT_len (d : Int × Int × Int) : (dayT d).length ≤ 10 := by
 cases h : Dat.ok8 d.1 d.2.1 d.2.2 with
 | true => unfold dayT; rw [bs9_len, (Dat.told_day h).1]; exact Nat.le_refl _
 | false => unfold dayT; rw [Dat.text8_not h]; exact Nat.zero_le _
def tlT (c : Co) : List Nat := match (if dayT c.day ≠ [] then [dayT c.day] else []) ++ (if bs9 c.lab ≠ [] then [qt (bs9 c.lab)] else []) with
 | [] => []
 | p :: q => 44 :: 32 :: jnT (p :: q)
theorem jn_cons (x : List Nat) (l : List (List Nat)) : jnT (x :: l) = x ++ (match l with | [] => [] | p :: q => 44 :: 32 :: jnT (p :: q)) := by
 cases l with
 | nil => exact (List.append_nil _).symm
 | cons p q => rfl
theorem two_len {a b : List Nat} {P Q : Prop} [Decidable P] [Decidable Q] {m n : Nat} (ha : a.length ≤ m) (hb : b.length ≤ n) : (jnT ((if P then [a] else []) ++ (if Q then [b] else []))).length ≤ m + n + 2 := by
 split <;> split <;> simp [jnT] <;> omega
theorem tl_len {c : Co} (h : CoS c) : (tlT c).length ≤ 76 ∧ (jnT ((if dayT c.day ≠ [] then [dayT c.day] else []) ++ (if bs9 c.lab ≠ [] then [qt (bs9 c.lab)] else []))).length ≤ 74 := by
 have h1 := dayT_len c.day
 have h2 := qt_len (bs9 c.lab)
 have h3 := h.2
 have h4 := two_len (a := dayT c.day) (b := qt (bs9 c.lab)) (P := dayT c.day ≠ []) (Q := bs9 c.lab ≠ []) (m := 10) (n := 62) h1 (by omega)
 refine ⟨?_, h4⟩
 unfold tlT
 generalize (if dayT c.day ≠ [] then [dayT c.day] else []) ++ (if bs9 c.lab ≠ [] then [qt (bs9 c.lab)] else []) = l at h4
 cases l with
 | nil => exact Nat.zero_le _
 | cons p q => simp only [List.length_cons]; omega
theorem shut_len (m : Bool) : (shutC m).length ≤ 2 := by cases m <;> decide
theorem opn_len (m : Bool) : (opnC m).length ≤ 2 := by cases m <;> decide
theorem cstT_eq (c : Co) : cstT c = if c.un.has = true ∨ bs9 c.un.cur ≠ [] then opnC c.tot ++ (untT c.un ++ (tlT c ++ shutC c.tot)) else opnC c.tot ++ (jnT ((if dayT c.day ≠ [] then [dayT c.day] else []) ++ (if bs9 c.lab ≠ [] then [qt (bs9 c.lab)] else [])) ++ shutC c.tot) := by
 unfold cstT prtT
 split
 ·rw [List.singleton_append, jn_cons, List.append_assoc]; rfl
 ·rfl
theorem cstT_len {c : Co} (h : CoS c) : (cstT c).length ≤ 2554 := by
 have h1 := untT_len h.1
 have h2 := tl_len h
 have h3 := shut_len c.tot
 have h4 := opn_len c.tot
 rw [cstT_eq]
 split
 ·rw [List.length_append, List.length_append, List.length_append]; omega
 ·rw [List.length_append, List.length_append]; omega
theorem prcT_len {p : Bool × Un} (h : UnS p.2) : (prcT p).length ≤ 2477 := by
 have h1 := untT_len h
 unfold prcT
 rw [List.length_append]
 split <;> split <;> simp <;> omega
theorem wgt_unt {u : Un} (h : UnS u) {r : List Nat} (hu : u.has = true) : Wgt (untT u ++ r) (2465 + 12 * ((bs9 u.cur).length + r.length)) := by
 have h1 := txtD_len h.1
 have h2 := h.2.1
 have h3 := wgt_any _ (Nat.le_refl (bs9 u.cur ++ r).length)
 rw [List.length_append] at h3
 unfold untT
 rw [if_pos hu]
 unfold amtT
 rw [List.append_assoc]
 exact (wgt_dec u.i u.k (fol_blank _) (wgt_blank h3)).mono (by omega)
theorem untT_head {u : Un} (hu : u.has = true) (r : List Nat) {c : Nat} (hc : 58 ≤ c) : (untT u ++ r).head? ≠ some c := by
 unfold untT
 rw [if_pos hu]
 unfold amtT
 rw [txtD_bod]
 obtain ⟨d, t, e, hd⟩ := bod_head u.i.natAbs u.k
 have hd2 : 48 ≤ d ∧ d ≤ 57 := by unfold YtjonoedomgacaaaGreatDoor.dgB at hd; simpa using hd
 unfold sgT
 split
 ·intro e2
  have := Option.some.inj e2
  omega
 ·rw [e]
  intro e2
  have : d = c := Option.some.inj e2
  omega
theorem wgt_units {u : Un} (h : UnS u) : Wgt (untT u) 4010 := by
 have h3 := h.2.2
 cases hu : u.has with
 | true =>
  have := wgt_unt h (r := []) hu
  rw [List.append_nil] at this
  exact this.mono (by rw [List.length_nil]; omega)
 | false =>
  unfold untT
  rw [if_neg (by rw [hu]; decide)]
  exact (wgt_any _ (Nat.le_refl _)).mono (by omega)
theorem wgt_cst {c : Co} (h : CoS c) : Wgt (cstT c) 4010 := by
 have h1 := tl_len h
 have h2 := shut_len c.tot
 have h3 := opn_len c.tot
 have h4 := h.1.2.2
 rw [cstT_eq]
 cases hu : c.un.has with
 | true =>
  rw [if_pos (.inl rfl)]
  have hw := wgt_unt h.1 (r := tlT c ++ shutC c.tot) hu
  have hh := untT_head hu (tlT c ++ shutC c.tot) (c := 123) (by decide)
  rw [List.length_append] at hw
  unfold opnC
  split
  ·exact (wgt_two (.inl rfl) hw).mono (by omega)
  ·exact (wgt_one (.inr (.inl rfl)) (.inr hh) hw).mono (by omega)
 | false =>
  have e : untT c.un = bs9 c.un.cur := by unfold untT; rw [if_neg (by rw [hu]; decide)]
  split
  ·refine (wgt_any _ (Nat.le_refl _)).mono ?_
   rw [List.length_append, List.length_append, List.length_append, e]; omega
  ·refine (wgt_any _ (Nat.le_refl _)).mono ?_
   rw [List.length_append, List.length_append]; omega
theorem wgt_prc {p : Bool × Un} (h : UnS p.2) : Wgt (prcT p) 4010 := by
 have h3 := h.2.2
 have h4 : Wgt (if untT p.2 ≠ [] then 32 :: untT p.2 else []) 3900 := by
  split
  ·refine wgt_blank ?_
   cases hu : p.2.has with
   | true =>
    have := wgt_unt h (r := []) hu
    rw [List.append_nil] at this
    exact this.mono (by rw [List.length_nil]; omega)
   | false =>
    unfold untT
    rw [if_neg (by rw [hu]; decide)]
    exact (wgt_any _ (Nat.le_refl _)).mono (by omega)
  ·exact wgt_nil.mono (by omega)
 have hh : (if untT p.2 ≠ [] then 32 :: untT p.2 else []).head? ≠ some 64 := by
  split
  ·intro e; cases e
  ·intro e; cases e
 unfold prcT
 generalize (if untT p.2 ≠ [] then 32 :: untT p.2 else []) = r at h4 hh
 split
 ·exact (wgt_two (.inr rfl) h4).mono (by omega)
 ·exact (wgt_one (.inr (.inr rfl)) (.inr hh) h4).mono (by omega)
theorem ws_tks (no : Int) (ts : List Wd) (hb : ∀ t ∈ ts, ∀ c ∈ t.2.1, c < 256) : Wgh.ws ((tks no ts).map tok) ((tks no ts).map tok).length = wgt ts := by
 unfold Wgh.ws wgt
 rw [List.take_length]
 induction ts with
 | nil => rfl
 | cons t r ih =>
  have h1 := ih fun t ht => hb t (List.mem_cons_of_mem _ ht)
  show (st9 t.2.1).size + 11 + _ = t.2.1.length + 11 + _
  rw [← bs9_len, bs9_st9 (hb t List.mem_cons_self)]
  exact congrArg (fun z => t.2.1.length + 11 + z) h1
def RetB (w : World) (P : Prop) (e : Ending) (w' : World) : Prop := ∃ b : Bool, e = .returned (.bool b) ∧ (b = true → P) ∧ Below w.heap.size w w'
theorem few14 {w : World} {B n c : Nat} {A : Option Addr} {L : List Tk4} (hr : RdK w B A n c L) (hB : B ≤ w.heap.size) : Calls Tryz.prog 4 #[.slice A n c] w (RetB w (FewL (L.map tok))) := by
 have hn9 : n ≤ 9223372036854775807 := by
  rcases Nat.eq_zero_or_pos n with e | e
  ·omega
  ·have h2 := hr.len
   obtain ⟨b, o, -, q1, q2, -⟩ := hr.at_ (k := 0) (List.getElem?_eq_getElem (l := L) (by omega))
   exact Nat.le_trans q1 q2
 have hlen := hr.len
 have HL := Lib.hid hlen
 have R1 := Lib.hid hr
 clear hr hlen
 go_enter Tryz.func4, Tryz.ntmps4
 go_wp2_with fail
 go_loopw [7] (fun iv wr => ∃ i : Nat, iv = .int .i64 i ∧ i ≤ n ∧ (∀ j t, j < i → L[j]? = some t → t.2.1.size ≤ 30) ∧ Below w.heap.size w wr) (fun iv _ => n - (intOf iv).toNat)
 case atStart => exact ⟨0, rfl, Nat.zero_le _, fun j t h => absurd h (Nat.not_lt_zero _), Below.refl _ _⟩
 case round =>
  obtain ⟨i, rfl, hi, hj, hb⟩ := hrel
  have HB := Lib.hid hb
  have HJ := Lib.hid hj
  clear hb hj
  rcases Nat.lt_or_ge i n with hlt | hge
  ·obtain ⟨t, ht⟩ : ∃ t, L[i]? = some t := ⟨_, List.getElem?_eq_getElem (by have := HL.out; omega)⟩
   have HT := Lib.hid ht
   obtain ⟨p1, o1, rfl, q1, q2, q3, q4, a0, a1, a2, a3⟩ := (R1.out.on hB HB.out).at_ ht
   obtain ⟨k1, T, l1, c1⟩ := t
   clear q2 ht
   rcases Nat.lt_or_ge 30 T.size with hT | hT
   ·have d : decide ((30 : Int) < (T.size : Int)) = true := decide_eq_true (by omega)
    go_wp2_with fail
    go_ret
    exact ⟨false, rfl, fun h => (by cases h), HB.out.trans (((Below.refl _ _).alloc (Nat.le_refl _) _).mono HB.out.size)⟩
   ·have d : decide ((30 : Int) < (T.size : Int)) = false := decide_eq_false (by omega)
    go_wp2_with fail
    go_roundw
    case rel =>
     refine ⟨i + 1, by go_num, by omega, fun j t hj ht => ?_, HB.out.trans (((Below.refl _ _).alloc (Nat.le_refl _) _).mono HB.out.size)⟩
     rcases Nat.lt_or_ge j i with h | h
     ·exact HJ.out j t h ht
     ·obtain rfl : j = i := by omega
      rw [HT.out] at ht
      cases ht; exact hT
    case measure => simp [intOf] <;> omega
  ·go_wp2_with fail
   go_ret
   refine ⟨_, rfl, fun h => ⟨?_, fun x hx => ?_⟩, HB.out⟩
   ·have h1 := of_decide_eq_true h
    rw [List.length_map]
    have := HL.out
    omega
   ·obtain ⟨t, ht, rfl⟩ := List.mem_map.1 hx
    obtain ⟨j, hj, e⟩ := List.getElem_of_mem ht
    exact HJ.out j t (by have := HL.out; omega) (by rw [List.getElem?_eq_getElem hj, e])
def wdsOf (l : List Nat) : List Wd := match WD D12 N12 0 l with
 | .inl _ => []
 | .inr ts => ts
theorem rdK_nil (w : World) (B : Nat) : RdK w B none 0 0 [] := ⟨rfl, Nat.le_refl _, Nat.zero_le _, .inl rfl⟩
def RetL (w : World) (ts : List Wd) (e : Ending) (w' : World) : Prop := ∃ A n c, e = .returned (.slice A n c) ∧ RdK w' w'.heap.size A n c (tks 1 ts) ∧ Below w.heap.size w w'
theorem words14 {w : World} {s : ByteArray} (hok : Ok12 w) (hs : s.size ≤ 6000) : Calls Tryz.prog 7 #[.string s] w (RetL w (wdsOf (bs9 s))) := by
 have HW := Lib.hid (lexwords_is okw12 dayok12 (fun _ h hs => lexunquote_is h hs _) o08 o07 o11 1 s hs w hok)
 clear hok
 unfold wdsOf
 cases h : WD D12 N12 0 (bs9 s) with
 | inl p =>
  obtain ⟨c0, x0⟩ := p
  rw [h] at HW
  go_enter Tryz.func7, Tryz.ntmps7
  go_wp2_with fail
  refine HW.out.mono ?_
  rintro e v ⟨rfl, hb⟩
  have E := Lib.hid hb
  clear hb
  go_wp2_with fail
  go_ret
  exact ⟨_, _, _, rfl, rdK_nil _ _, E.out.alloc E.out.size _⟩
 | inr ts =>
  rw [h] at HW
  go_enter Tryz.func7, Tryz.ntmps7
  go_wp2_with fail
  refine HW.out.mono ?_
  rintro e v ⟨⟨A, c, rfl, hr⟩, hb⟩
  have R1 := Lib.hid hr
  have E := Lib.hid hb
  clear hr hb
  go_wp2_with fail
  go_ret
  have hb2 := (Below.refl v.heap.size v).alloc (Nat.le_refl _) (.cells #[.int .i64 0, .int .i64 0, .int .i64 0] 64)
  exact ⟨_, _, _, rfl, rdK_of (R1.out.on hb2), E.out.alloc E.out.size _⟩
def txI (k : Int) (x : List Nat) : List Nat := if 0 ≤ k then YtjonoedomgacaaaGreatDoor.txt k.toNat x else x
theorem txI_len (k : Int) (x : List Nat) : (txI k x).length ≤ 2 * x.length + 2 := by
 unfold txI
 split
 ·unfold YtjonoedomgacaaaGreatDoor.txt
  split
  ·exact qt_len x
  ·split
   ·rw [List.length_cons]; omega
   ·split
    ·rw [List.length_cons]; omega
    ·split
     ·rw [List.length_append, List.length_singleton]; omega
     ·omega
 ·omega
theorem txI_lt (k : Int) (s : ByteArray) : ∀ c ∈ txI k (bs9 s), c < 256 := by
 have h := bs9_lt s
 unfold txI
 split
 ·unfold YtjonoedomgacaaaGreatDoor.txt
  split
  ·exact qt_lt h
  ·split
   ·intro c hc; rcases List.mem_cons.1 hc with rfl | hc; decide; exact h c hc
   ·split
    ·intro c hc; rcases List.mem_cons.1 hc with rfl | hc; decide; exact h c hc
    ·split
     ·intro c hc
      rcases List.mem_append.1 hc with hc | hc
      ·exact h c hc
      ·rw [List.mem_singleton.1 hc]; decide
     ·exact h
 ·exact h
theorem text14 (k : Int) {X Y : ByteArray} (h : txI k (bs9 X) = bs9 Y) (hX : X.size ≤ 6000) (l c : Int) (w : World) : Calls Tryz.prog 23 #[.agg #[.int .i64 k, .string X, .int .i64 l, .int .i64 c]] w (Ret9 w (.string Y)) := by
 by_cases h0 : 0 ≤ k
 ·obtain ⟨m, rfl⟩ : ∃ m : Nat, (m : Int) = k := ⟨k.toNat, by omega⟩
  unfold txI at h
  rw [if_pos h0, Int.toNat_natCast] at h
  exact lextxt_is h hX l c w
 ·unfold txI at h
  rw [if_neg h0] at h
  obtain rfl := bs9_inj h
  have HB : Hid (Below w.heap.size w (w.alloc (.cells #[.int .i64 k, .string X, .int .i64 l, .int .i64 c] 54))) := (Below.refl _ _).alloc (Nat.le_refl _) _
  have d5 : (k == 5) = false := by rw [beq_eq_false_iff_ne]; omega
  have d6 : (k == 6) = false := by rw [beq_eq_false_iff_ne]; omega
  have d7 : (k == 7) = false := by rw [beq_eq_false_iff_ne]; omega
  have d9 : (k == 9) = false := by rw [beq_eq_false_iff_ne]; omega
  clear h h0
  go_enter Tryz.func23, Tryz.ntmps23
  go_wp2_with fail
  go_ret
  exact ⟨rfl, HB.out⟩
theorem sum14 {X Y : ByteArray} {a b : List Nat} (hX : bs9 X = a) (hY : bs9 Y = b) (h : a.length + b.length ≤ 1000000) : ∃ Z, bs9 Z = a ++ b ∧ ∀ w, (Op.stringOp .add X Y).run Tryz.prog w = .ok (.string Z) w := by
 have hlt : ∀ c ∈ a ++ b, c < 256 := by
  intro c hc
  rcases List.mem_append.1 hc with h | h
  ·rw [← hX] at h; exact bs9_lt _ c h
  ·rw [← hY] at h; exact bs9_lt _ c h
 refine ⟨st9 (a ++ b), bs9_st9 hlt, fun w => add9 (by rw [bs9_st9 hlt, hX, hY]) (by rw [← bs9_len, ← bs9_len, hX, hY]; omega) w⟩
theorem prp_of {L : List Tk4} {l : List Nat} (hl : L.length = (wdsOf l).length) (h : ∀ j t u, j < L.length → L[j]? = some t → (tks 1 (wdsOf l))[j]? = some u → t.1 = u.1 ∧ t.2.1 = u.2.1) (hlt : ∀ c ∈ l, c < 256) : PrpL (L.map tok) := by
 intro x hx
 obtain ⟨t, ht, rfl⟩ := List.mem_map.1 hx
 obtain ⟨j, hj, e⟩ := List.getElem_of_mem ht
 have hj2 : j < (wdsOf l).length := by omega
 have h1 : (wdsOf l)[j]? = some ((wdsOf l)[j]) := List.getElem?_eq_getElem hj2
 have h2 := h j t _ hj (by rw [List.getElem?_eq_getElem hj, e]) (by unfold tks; rw [List.getElem?_map, h1]; rfl)
 unfold wdsOf at h1 hj2
 cases hw : WD D12 N12 0 l with
 | inl e => rw [hw] at hj2; exact absurd hj2 (Nat.not_lt_zero _)
 | inr ts =>
  have hm : (wdsOf l)[j] ∈ ts := by
   have : wdsOf l = ts := by unfold wdsOf; rw [hw]
   rw [← this]; exact List.getElem_mem _
  have hp := WD_prp _ (Nat.le_refl _) hw _ hm
  have hb := (WD_all dayok12 _ (Nat.le_refl _) hw hlt).2.2 _ hm
  obtain ⟨g1, g2⟩ := h2
  have e1 : t.1 = (((wdsOf l)[j]).1 : Int) := g1
  have e2 : t.2.1 = st9 ((wdsOf l)[j]).2.1 := g2
  show Prp t.1.toNat (bs9 t.2.1)
  rw [e1, e2, Int.toNat_natCast, bs9_st9 hb.1]
  exact hp
def jnL (L : List Tk4) : List Nat := L.flatMap fun t => 32 :: txI t.1 (bs9 t.2.1)
def kt (t : Tk4) : Int × List Nat := (t.1, bs9 t.2.1)
def plnB (L : List Tk4) : Bool := decide ((tks 1 (wdsOf (jnL L))).map kt = L.map kt)
theorem jnL_step {L : List Tk4} {i : Nat} {t : Tk4} (h : L[i]? = some t) : jnL (L.take (i + 1)) = jnL (L.take i) ++ (32 :: txI t.1 (bs9 t.2.1)) := by
 unfold jnL
 rw [List.take_add_one, h, List.flatMap_append]
 show _ ++ ((32 :: txI t.1 (bs9 t.2.1)) ++ []) = _
 rw [List.append_nil]
theorem pln_len {L : List Tk4} (h : L.length ≠ (wdsOf (jnL L)).length) : plnB L = false := decide_eq_false fun e => h (by
 have := congrArg List.length e
 unfold tks at this
 rw [List.length_map, List.length_map, List.length_map] at this
 exact this.symm)
theorem pln_at {L : List Tk4} {j : Nat} {t u : Tk4} (h1 : L[j]? = some t) (h2 : (tks 1 (wdsOf (jnL L)))[j]? = some u) (h : ¬ (t.1 = u.1 ∧ t.2.1 = u.2.1)) : plnB L = false := decide_eq_false fun e => h (by
 have := congrArg (fun l => l[j]?) e
 simp only [List.getElem?_map, h1, h2, Option.map_some] at this
 have e2 := Option.some.inj this
 exact ⟨(congrArg Prod.fst e2).symm, bs9_inj (congrArg Prod.snd e2).symm⟩)
theorem pln_yes {L : List Tk4} (hl : L.length = (wdsOf (jnL L)).length) (h : ∀ j t u, j < L.length → L[j]? = some t → (tks 1 (wdsOf (jnL L)))[j]? = some u → t.1 = u.1 ∧ t.2.1 = u.2.1) : plnB L = true := decide_eq_true (by
 have hl2 : (tks 1 (wdsOf (jnL L))).length = L.length := by unfold tks; rw [List.length_map]; exact hl.symm
 refine List.ext_getElem (by rw [List.length_map, List.length_map, hl2]) fun j g1 g2 => ?_
 rw [List.length_map] at g1 g2
 rw [List.getElem_map, List.getElem_map]
 obtain ⟨q1, q2⟩ := h j _ _ g2 (List.getElem?_eq_getElem g2) (List.getElem?_eq_getElem g1)
 unfold kt
 rw [q1, q2])
theorem jnL_lt (L : List Tk4) : ∀ c ∈ jnL L, c < 256 := by
 intro c hc
 obtain ⟨t, -, h⟩ := List.mem_flatMap.1 hc
 rcases List.mem_cons.1 h with rfl | h
 ·decide
 ·exact txI_lt _ _ c h
theorem pln_prp {L : List Tk4} (h : plnB L = true) : PrpL (L.map tok) := by
 have e := of_decide_eq_true h
 have hl : L.length = (wdsOf (jnL L)).length := by
  have := congrArg List.length e
  unfold tks at this
  rw [List.length_map, List.length_map, List.length_map] at this
  exact this.symm
 refine prp_of hl (fun j t u _ h1 h2 => ?_) (jnL_lt L)
 have := congrArg (fun l => l[j]?) e
 simp only [List.getElem?_map, h1, h2, Option.map_some] at this
 have e2 := Option.some.inj this
 exact ⟨(congrArg Prod.fst e2).symm, bs9_inj (congrArg Prod.snd e2).symm⟩
theorem str_differ {T U : ByteArray} (h : T ≠ U) : (T.toList == U.toList) = false := by
 rw [beq_eq_false_iff_ne]
 exact fun e => h (bs9_inj (by rw [ByteArray.toList_eq, ByteArray.toList_eq] at e; unfold bs9; rw [e]))
theorem plain14 {w : World} {B n c : Nat} {A : Option Addr} {L : List Tk4} (hok : Ok12 w) (hr : RdK w B A n c L) (hB : B ≤ w.heap.size) (hL : FewL (L.map tok)) : Calls Tryz.prog 9 #[.slice A n c] w (Ret9 w (.bool (plnB L))) := by
 have hlen := hr.len
 have hn9 : n ≤ 60 := by have := hL.1; rw [List.length_map] at this; omega
 have HSZ : Hid (∀ t ∈ L, t.2.1.size ≤ 30) := fun t ht => hL.2 (tok t) (List.mem_map_of_mem ht)
 have HL := Lib.hid hlen
 have R1 := Lib.hid hr
 have OK : Hid (∀ {W : World}, Below w.heap.size w W → Ok12 W) := fun hb => okw12 hok hb
 clear hr hlen hL hok
 go_enter Tryz.func9, Tryz.ntmps9
 go_wp2_with fail
 go_loopw [3, 10] (fun sv iv wr => ∃ (i : Nat) (S : ByteArray), sv = .string S ∧ iv = .int .i64 i ∧ i ≤ n ∧ S.size ≤ 63 * i ∧ bs9 S = jnL (L.take i) ∧ Below w.heap.size w wr) (fun _ iv _ => n - (intOf iv).toNat)
 case atStart => exact ⟨0, ⟨#[]⟩, rfl, rfl, Nat.zero_le _, Nat.zero_le _, rfl, Below.refl _ _⟩
 case round =>
  obtain ⟨i, S, rfl, rfl, hi, hS, hjn, hb⟩ := hrel
  have HB := Lib.hid hb
  have HJN := Lib.hid hjn
  clear hb hjn
  rcases Nat.lt_or_ge i n with hlt | hge
  ·obtain ⟨t, ht⟩ : ∃ t, L[i]? = some t := ⟨_, List.getElem?_eq_getElem (by have := HL.out; omega)⟩
   have hT := HSZ.out t (List.mem_of_getElem? ht)
   obtain ⟨p1, o1, rfl, q1, q2, q3, q4, a0, a1, a2, a3⟩ := (R1.out.on hB HB.out).at_ ht
   obtain ⟨k1, T, l1, c1⟩ := t
   clear q2
   have hT : T.size ≤ 30 := hT
   obtain ⟨Y, hY⟩ : ∃ Y, txI k1 (bs9 T) = bs9 Y := ⟨_, (bs9_st9 (txI_lt k1 T)).symm⟩
   have hYs : Y.size ≤ 62 := by rw [← bs9_len, ← hY]; have := txI_len k1 (bs9 T); rw [bs9_len] at this; omega
   have HY := Lib.hid hY
   have HST : Hid (jnL (L.take (i + 1)) = jnL (L.take i) ++ (32 :: txI k1 (bs9 T))) := jnL_step ht
   clear hY ht
   have hb2 := (Below.refl wr.heap.size wr).alloc (Nat.le_refl _) (.cells #[.int .i64 k1, .string T, .int .i64 l1, .int .i64 c1] 54)
   go_wp2_with fail
   refine (text14 k1 HY.out (by omega) l1 c1 _).mono ?_; rintro e w4 ⟨rfl, hb4⟩
   replace HB := Lib.hid (HB.out.trans ((hb2.trans (hb4.mono hb2.size)).mono HB.out.size))
   clear hb2 hb4 a0 a1 a2 a3
   obtain ⟨U, hU, aU⟩ := sum14 (X := ⟨#[32]⟩) (Y := Y) (a := [32]) rfl rfl (by rw [bs9_len, List.length_singleton]; omega)
   obtain ⟨V, hV, aV⟩ := sum14 (X := S) (Y := U) rfl hU (by rw [bs9_len, List.length_append, bs9_len, List.length_singleton]; omega)
   have hVs : V.size ≤ 63 * (i + 1) := by rw [← bs9_len, hV, List.length_append, List.length_append, bs9_len, bs9_len, List.length_singleton]; omega
   have HV : Hid (bs9 V = jnL (L.take (i + 1))) := by show _ = _; rw [hV, HST.out, HJN.out, HY.out]; rfl
   clear hU hV HY HST
   go_wp2_with fail
   go_roundw
   case rel => exact ⟨i + 1, V, rfl, by go_num, by omega, hVs, HV.out, HB.out⟩
   case measure => simp [intOf] <;> omega
  ·go_wp2_with fail
   refine (words14 (OK.out HB.out) (by omega)).mono ?_; rintro e w5 ⟨A2, n2, c2, rfl, hr2, hb5⟩
   have hlen2 := hr2.len
   have R2 := Lib.hid hr2
   have hlt9 := Lib.hid (bs9_lt S)
   have E := Lib.hid (HB.out.trans (hb5.mono HB.out.size))
   have HM : Hid (n2 = (wdsOf (bs9 S)).length) := by show _ = _; rw [hlen2]; unfold tks; rw [List.length_map]
   clear hr2 hlen2 hb5
   have hl : bs9 S = jnL L := by rw [HJN.out, List.take_of_length_le (by have := HL.out; omega)]
   rw [hl] at R2 HM hlt9
   clear hl
   by_cases hn2 : n = n2
   ·subst hn2
    go_wp2_with fail
    go_loopw [29] (fun iv wr => ∃ i : Nat, iv = .int .i64 i ∧ i ≤ n ∧ (∀ j t u, j < i → L[j]? = some t → (tks 1 (wdsOf (jnL L)))[j]? = some u → t.1 = u.1 ∧ t.2.1 = u.2.1) ∧ Below w5.heap.size w5 wr) (fun iv _ => n - (intOf iv).toNat)
    case atStart => exact ⟨0, rfl, Nat.zero_le _, fun j t u h => absurd h (Nat.not_lt_zero _), Below.refl _ _⟩
    case round =>
     obtain ⟨i2, rfl, hi2, hj2, hb⟩ := hrel
     have HB2 := Lib.hid hb
     have HJ := Lib.hid hj2
     clear hb hj2
     rcases Nat.lt_or_ge i2 n with hlt | hge2
     ·obtain ⟨t, ht⟩ : ∃ t, L[i2]? = some t := ⟨_, List.getElem?_eq_getElem (by have := HL.out; omega)⟩
      obtain ⟨u, hu⟩ : ∃ u, (tks 1 (wdsOf (jnL L)))[i2]? = some u := ⟨_, List.getElem?_eq_getElem (by have := HM.out; unfold tks; rw [List.length_map]; omega)⟩
      have HT := Lib.hid ht
      have HU := Lib.hid hu
      obtain ⟨p1, o1, rfl, q1, q2, q3, q4, a0, a1, a2, a3⟩ := (R1.out.on hB (E.out.trans (HB2.out.mono E.out.size))).at_ ht
      obtain ⟨p2, o2, rfl, y1, y2, y3, y4, b0, b1, b2, b3⟩ := (R2.out.on (Nat.le_refl _) HB2.out).at_ hu
      obtain ⟨k1, T, l1, c1⟩ := t
      obtain ⟨k2, U, l2, c9⟩ := u
      clear q2 y2 ht hu a2 a3 b2 b3
      by_cases hk : k1 = k2
      ·subst hk
       by_cases hT : T = U
       ·subst hT
        go_wp2_with fail
        go_quiet (fail)
        go_wp2_with fail
        go_roundw
        case rel =>
         refine ⟨i2 + 1, by go_num, by omega, fun j t u hj ht hu => ?_, below_drewN HB2.out _⟩
         rcases Nat.lt_or_ge j i2 with h | h
         ·exact HJ.out j t u h ht hu
         ·obtain rfl : j = i2 := by omega
          rw [HT.out] at ht
          rw [HU.out] at hu
          cases ht; cases hu; exact ⟨rfl, rfl⟩
        case measure => simp [intOf] <;> omega
       ·have d2 := str_differ hT
        have PF : Hid (plnB L = false) := pln_at HT.out HU.out fun e => hT e.2
        go_wp2_with fail
        go_quiet (fail)
        go_wp2_with fail
        go_ret
        exact ⟨by rw [PF.out]; rfl, E.out.trans ((below_drewN HB2.out _).mono E.out.size)⟩
      ·have d1 : (k1 == k2) = false := by rw [beq_eq_false_iff_ne]; exact hk
       have PF : Hid (plnB L = false) := pln_at HT.out HU.out fun e => hk e.1
       go_wp2_with fail
       go_quiet (fail)
       go_wp2_with fail
       go_ret
       exact ⟨by rw [PF.out]; rfl, E.out.trans ((below_drewN HB2.out _).mono E.out.size)⟩
     ·go_wp2_with fail
      go_ret
      refine ⟨by rw [pln_yes (by rw [← HL.out]; exact HM.out) (fun j t u hj => HJ.out j t u (by have := HL.out; omega))]; rfl, E.out.trans (HB2.out.mono E.out.size)⟩
   ·have d1 : ((n : Int) == (n2 : Int)) = false := by rw [beq_eq_false_iff_ne]; omega
    have PF : Hid (plnB L = false) := pln_len (by rw [← HL.out, ← HM.out]; exact hn2)
    go_wp2_with fail
    go_ret
    exact ⟨by rw [PF.out]; rfl, E.out⟩
theorem err_all (L : List Tok) : ∀ f : Nat,
  (∀ {d a e p}, facF L f d a = .inl (e, p) → e ≠ 0) ∧ (∀ {d a e p}, proF L f d a = .inl (e, p) → e ≠ 0) ∧ (∀ {d i k a e p}, proL L f d i k a = .inl (e, p) → e ≠ 0) ∧
  (∀ {d a e p}, sumF L f d a = .inl (e, p) → e ≠ 0) ∧ (∀ {d i k a e p}, sumL L f d i k a = .inl (e, p) → e ≠ 0) := by
 intro f
 induction f with
 | zero =>
  refine ⟨fun h => ?_, fun h => ?_, fun h => ?_, fun h => ?_, fun h => ?_⟩
  ·rw [facF] at h; cases h; decide
  ·rw [proF] at h; cases h; decide
  ·rw [proL] at h; cases h; decide
  ·rw [sumF] at h; cases h; decide
  ·rw [sumL] at h; cases h; decide
 | succ f ih =>
  obtain ⟨ih1, ih2, ih3, ih4, ih5⟩ := ih
  refine ⟨fun {d a e p} h => ?_, fun {d a e p} h => ?_, fun {d i k a e p} h => ?_, fun {d a e p} h => ?_, fun {d i k a e p} h => ?_⟩
  ·rw [facF] at h
   split at h
   ·cases h; decide
   ·split at h
    ·split at h
     ·cases h; decide
     ·cases h
    ·split at h
     ·cases h; decide
     ·split at h
      ·cases h; decide
      ·split at h
       ·cases hr : sumF L f (d + 1) (a + 1) with
        | inl q =>
         rw [hr] at h
         obtain ⟨x, y⟩ := q
         cases h
         exact ih4 hr
        | inr q =>
         obtain ⟨x, y, z⟩ := q
         rw [hr] at h
         unfold Rs.shut at h
         dsimp only at h
         split at h
         ·cases h
         ·cases h
          split <;> decide
       ·cases hr : facF L f (d + 1) (a + 1) with
        | inl q =>
         rw [hr] at h
         obtain ⟨x, y⟩ := q
         cases h
         exact ih1 hr
        | inr q =>
         obtain ⟨x, y, z⟩ := q
         rw [hr] at h
         cases h
  ·rw [proF] at h
   split at h
   ·rename_i hr
    cases h
    exact ih1 hr
   ·exact ih3 h
  ·rw [proL] at h
   split at h
   ·split at h
    ·rename_i hr
     cases h
     exact ih1 hr
    ·exact ih3 h
   ·split at h
    ·split at h
     ·rename_i hr
      cases h
      exact ih1 hr
     ·split at h
      ·cases h; decide
      ·exact ih3 h
    ·cases h
  ·rw [sumF] at h
   split at h
   ·rename_i hr
    cases h
    exact ih2 hr
   ·exact ih5 h
  ·rw [sumL] at h
   split at h
   ·split at h
    ·rename_i hr
     cases h
     exact ih2 hr
    ·exact ih5 h
   ·split at h
    ·split at h
     ·rename_i hr
      cases h
      exact ih2 hr
     ·exact ih5 h
    ·cases h
theorem SUM_bad {L : List Tok} {d a e p : Nat} (h : SUM L d a = .inl (e, p)) : e ≠ 0 := (err_all L _).2.2.2.1 h
section
variable {L : List Tok} {a e p b : Nat}
theorem amt_bad (h : amt L a = .inl (e, p)) : e ≠ 0 := by
 unfold amt at h
 split at h
 ·rename_i hs
  cases h
  exact SUM_bad hs
 ·split at h
  ·cases h; decide
  ·split at h
   ·cases h
   ·cases h; decide
theorem unt_bad (h : unt L a = .inl (e, p)) : e ≠ 0 := by
 unfold unt at h
 split at h
 ·cases h
 ·split at h
  ·cases h
  ·split at h
   ·cases h
   ·split at h
    ·rename_i ha
     cases h
     exact amt_bad ha
    ·cases h
theorem itm_bad {c : Co} (h : itm L c a = .inl (e, p)) : e ≠ 0 := by
 unfold itm at h
 split at h
 ·cases h; decide
 ·split at h
  ·cases h
  ·split at h
   ·cases h
   ·split at h
    ·cases h
    ·split at h
     ·split at h
      ·rename_i ha
       cases h
       exact amt_bad ha
      ·cases h
     ·cases h; decide
theorem cstL_bad : ∀ (f : Nat) {c : Co} {a : Nat}, cstL L f c a = .inl (e, p) → e ≠ 0 := by
 intro f
 induction f with
 | zero => intro c a h; rw [cstL] at h; cases h; decide
 | succ f ih =>
  intro c a h
  rw [cstL] at h
  split at h
  ·rename_i hi
   cases h
   exact itm_bad hi
  ·split at h
   ·cases h
   ·split at h
    ·exact ih h
    ·cases h
     unfold shr; split <;> decide
theorem cst_bad (h : cst L a = .inl (e, p)) : e ≠ 0 := by
 unfold cst at h
 split at h
 ·split at h
  ·rename_i hb
   cases h
   unfold cstB at hb
   split at hb
   ·cases hb
   ·exact cstL_bad _ hb
  ·cases h
 ·cases h
theorem prc_bad (h : prc L a = .inl (e, p)) : e ≠ 0 := by
 unfold prc at h
 split at h
 ·split at h
  ·rename_i hb
   cases h
   exact unt_bad hb
  ·cases h
 ·cases h
end
def UnF (u : Un) : Prop := (dg u.i.natAbs).length ≤ 900 ∧ u.k ≤ 4010 ∧ u.cur.size ≤ 6000
theorem dg_none : (dg (0 : Int).natAbs).length ≤ 900 := Nat.le_trans (sz_zero 0).nine (by decide)
theorem UnS.fits {u : Un} (h : UnS u) : UnF u := by
 obtain ⟨h1, h2, h3⟩ := h
 have := h1.nine
 rw [bs9_len] at h3
 exact ⟨by omega, by omega, by omega⟩
section
variable {L : List Tok} (hL : Wgh.ws L L.length ≤ 4010) {a b k : Nat} {i : Int} {x : ByteArray} {u : Un} {c c' : Co} {m : Bool}
include hL
end
def Bk (w : World) (g : Nat) (xs : Array Value) (t : TypeId) : Prop := w.heap[g]? = some (.cells xs t (0, 0))
theorem Bk.lt {w : World} {g : Nat} {xs : Array Value} {t : TypeId} (h : Bk w g xs t) : g < w.heap.size := by
 rcases Nat.lt_or_ge g w.heap.size with h1 | h1
 ·exact h1
 ·unfold Bk at h; rw [Array.getElem?_eq_none h1] at h; cases h
theorem Bk.on {w w' : World} {g : Nat} {xs : Array Value} {t : TypeId} (h : Bk w g xs t) (hb : Below w.heap.size w w') : Bk w' g xs t := (hb.block g h.lt).trans h
theorem Bk.cell {w : World} {g : Nat} {xs : Array Value} {t : TypeId} (h : Bk w g xs t) (j : Nat) : w.cell? ⟨g, j, none⟩ = xs[j]? := cell_of_row w g j _ _ _ h
theorem Bk.new (v : World) (xs : Array Value) (t : TypeId) {g : Nat} (h : g = v.heap.size) : Bk (v.alloc (.cells xs t)) g xs t := by subst h; exact heap_alloc_new v _
structure VU where
 b : Bool
 i : Int
 k : Nat
 s : ByteArray
structure VP where
 h : Bool
 t : Bool
 b : Bool
 i : Int
 k : Nat
 s : ByteArray
structure VC where
 h : Bool
 t : Bool
 b : Bool
 i : Int
 k : Nat
 s : ByteArray
 y : Int
 m : Int
 d : Int
 l : ByteArray
def VU.of (u : Un) : VU := ⟨u.has, u.i, u.k, u.cur⟩
def VP.of : Option (Bool × Un) → VP
 | none => ⟨false, false, false, 0, 0, ⟨#[]⟩⟩
 | some (t, u) => ⟨true, t, u.has, u.i, u.k, u.cur⟩
def VC.of : Option Co → VC
 | none => ⟨false, false, false, 0, 0, ⟨#[]⟩, 0, 0, 0, ⟨#[]⟩⟩
 | some c => ⟨true, c.tot, c.un.has, c.un.i, c.un.k, c.un.cur, c.day.1, c.day.2.1, c.day.2.2, c.lab⟩
def resU : (Nat × Nat) ⊕ (Un × Nat) → VU × Nat × Nat
 | .inl (e, p) => (VU.of Un.zero, p, e)
 | .inr (u, p) => (VU.of u, p, 0)
def resC : (Nat × Nat) ⊕ (Option Co × Nat) → VC × Nat × Nat
 | .inl (e, p) => (VC.of none, p, e)
 | .inr (u, p) => (VC.of u, p, 0)
def resP : (Nat × Nat) ⊕ (Option (Bool × Un) × Nat) → VP × Nat × Nat
 | .inl (e, p) => (VP.of none, p, e)
 | .inr (u, p) => (VP.of u, p, 0)
def sameU (v v' : VU) : Bool := decide (v.b = v'.b ∧ v.i = v'.i ∧ v.k = v'.k ∧ bs9 v.s = bs9 v'.s)
def sameC (v v' : VC) : Bool := decide (v.h = v'.h ∧ v.t = v'.t ∧ v.b = v'.b ∧ v.i = v'.i ∧ v.k = v'.k ∧ bs9 v.s = bs9 v'.s ∧ v.y = v'.y ∧ v.m = v'.m ∧ v.d = v'.d ∧ bs9 v.l = bs9 v'.l)
def sameP (v v' : VP) : Bool := decide (v.h = v'.h ∧ v.t = v'.t ∧ v.b = v'.b ∧ v.i = v'.i ∧ v.k = v'.k ∧ bs9 v.s = bs9 v'.s)
theorem sameU_refl (v : VU) : sameU v v = true := decide_eq_true ⟨rfl, rfl, rfl, rfl⟩
theorem sameC_refl (v : VC) : sameC v v = true := decide_eq_true ⟨rfl, rfl, rfl, rfl, rfl, rfl, rfl, rfl, rfl, rfl⟩
theorem sameP_refl (v : VP) : sameP v v = true := decide_eq_true ⟨rfl, rfl, rfl, rfl, rfl, rfl⟩
structure VA where
 i : Int
 k : Nat
 s : ByteArray
def resA : RA → VA × Nat × Nat
 | .inl (e, p) => (⟨0, 0, ⟨#[]⟩⟩, p, e)
 | .inr (i, k, c, p) => (⟨i, k, c⟩, p, 0)
def txtA (v : VA) : List Nat := amtT v.i v.k (bs9 v.s)
def txtU (v : VU) : List Nat := untT ⟨v.b, v.i, v.k, v.s⟩
def txtC (v : VC) : List Nat := if v.h = true then cstT ⟨v.t, ⟨v.b, v.i, v.k, v.s⟩, (v.y, v.m, v.d), v.l⟩ else []
def txtP (v : VP) : List Nat := if v.h = true then prcT (v.t, ⟨v.b, v.i, v.k, v.s⟩) else []
def RvU (w : World) (v : VU) (p e : Nat) (en : Ending) (w' : World) : Prop := ∃ (A : Option Addr) (n c : Nat), en = .returned (.tuple #[.agg #[.bool v.b, .bool (ngB v.i), .slice A n c, .int .i64 (v.k : Int), .string v.s], .int .i64 (p : Int), .int .i64 (e : Int)]) ∧ Num w' w'.heap.size A n c v.i.natAbs ∧ Below w.heap.size w w'
def READU : Prop := ∀ {w : World} {B n c : Nat} {A : Option Addr} {L : List Tk4} {G : Nat → Nat → Int → Nat → Prop} {v : VU} {p e : Nat}, RdK w B A n c L → B ≤ w.heap.size → n ≤ 400 → Siz (L.map tok) G → Ok12 w → resU (unt (L.map tok) 0) = (v, p, e) → Calls Tryz.prog 6 #[.slice A n c, .int .i64 0] w (RvU w v p e)
def TEXTU : Prop := ∀ {w : World} {A : Option Addr} {n c : Nat} {v : VU} {T : ByteArray}, Num w w.heap.size A n c v.i.natAbs → n ≤ 900 → v.k ≤ 4010 → v.s.size ≤ 30 → Ok12 w → txtU v = bs9 T → Calls Tryz.prog 8 #[.agg #[.bool v.b, .bool (ngB v.i), .slice A n c, .int .i64 (v.k : Int), .string v.s]] w (Ret9 w (.string T))
def SAMEU : Prop := ∀ {w : World} {A A' : Option Addr} {n c n' c' : Nat} {v v' : VU} {x : Bool}, Num w w.heap.size A n c v.i.natAbs → Num w w.heap.size A' n' c' v'.i.natAbs → Ok12 w → sameU v v' = x → Calls Tryz.prog 10 #[.agg #[.bool v.b, .bool (ngB v.i), .slice A n c, .int .i64 (v.k : Int), .string v.s], .agg #[.bool v'.b, .bool (ngB v'.i), .slice A' n' c', .int .i64 (v'.k : Int), .string v'.s]] w (Ret9 w (.bool x))
def RvC (w : World) (v : VC) (p e : Nat) (en : Ending) (w' : World) : Prop := ∃ (A : Option Addr) (n c : Nat), en = .returned (.tuple #[.agg #[.bool v.h, .bool v.t, .bool v.b, .bool (ngB v.i), .slice A n c, .int .i64 (v.k : Int), .string v.s, .int .i64 v.y, .int .i64 v.m, .int .i64 v.d, .string v.l], .int .i64 (p : Int), .int .i64 (e : Int)]) ∧ Num w' w'.heap.size A n c v.i.natAbs ∧ Below w.heap.size w w'
def READC : Prop := ∀ {w : World} {B n c : Nat} {A : Option Addr} {L : List Tk4} {G : Nat → Nat → Int → Nat → Prop} {v : VC} {p e : Nat}, RdK w B A n c L → B ≤ w.heap.size → n ≤ 400 → Siz (L.map tok) G → Ok12 w → resC (cst (L.map tok) 0) = (v, p, e) → Calls Tryz.prog 11 #[.slice A n c, .int .i64 0] w (RvC w v p e)
def TEXTC : Prop := ∀ {w : World} {A : Option Addr} {n c : Nat} {v : VC} {T : ByteArray}, Num w w.heap.size A n c v.i.natAbs → n ≤ 900 → v.k ≤ 4010 → v.s.size ≤ 30 → v.l.size ≤ 30 → Ok12 w → txtC v = bs9 T → Calls Tryz.prog 12 #[.agg #[.bool v.h, .bool v.t, .bool v.b, .bool (ngB v.i), .slice A n c, .int .i64 (v.k : Int), .string v.s, .int .i64 v.y, .int .i64 v.m, .int .i64 v.d, .string v.l]] w (Ret9 w (.string T))
def SAMEC : Prop := ∀ {w : World} {A A' : Option Addr} {n c n' c' : Nat} {v v' : VC} {x : Bool}, Num w w.heap.size A n c v.i.natAbs → Num w w.heap.size A' n' c' v'.i.natAbs → Ok12 w → sameC v v' = x → Calls Tryz.prog 13 #[.agg #[.bool v.h, .bool v.t, .bool v.b, .bool (ngB v.i), .slice A n c, .int .i64 (v.k : Int), .string v.s, .int .i64 v.y, .int .i64 v.m, .int .i64 v.d, .string v.l], .agg #[.bool v'.h, .bool v'.t, .bool v'.b, .bool (ngB v'.i), .slice A' n' c', .int .i64 (v'.k : Int), .string v'.s, .int .i64 v'.y, .int .i64 v'.m, .int .i64 v'.d, .string v'.l]] w (Ret9 w (.bool x))
def RvP (w : World) (v : VP) (p e : Nat) (en : Ending) (w' : World) : Prop := ∃ (A : Option Addr) (n c : Nat), en = .returned (.tuple #[.agg #[.bool v.h, .bool v.t, .bool v.b, .bool (ngB v.i), .slice A n c, .int .i64 (v.k : Int), .string v.s], .int .i64 (p : Int), .int .i64 (e : Int)]) ∧ Num w' w'.heap.size A n c v.i.natAbs ∧ Below w.heap.size w w'
def READP : Prop := ∀ {w : World} {B n c : Nat} {A : Option Addr} {L : List Tk4} {G : Nat → Nat → Int → Nat → Prop} {v : VP} {p e : Nat}, RdK w B A n c L → B ≤ w.heap.size → n ≤ 400 → Siz (L.map tok) G → Ok12 w → resP (prc (L.map tok) 0) = (v, p, e) → Calls Tryz.prog 14 #[.slice A n c, .int .i64 0] w (RvP w v p e)
def TEXTP : Prop := ∀ {w : World} {A : Option Addr} {n c : Nat} {v : VP} {T : ByteArray}, Num w w.heap.size A n c v.i.natAbs → n ≤ 900 → v.k ≤ 4010 → v.s.size ≤ 30 → Ok12 w → txtP v = bs9 T → Calls Tryz.prog 15 #[.agg #[.bool v.h, .bool v.t, .bool v.b, .bool (ngB v.i), .slice A n c, .int .i64 (v.k : Int), .string v.s]] w (Ret9 w (.string T))
def SAMEP : Prop := ∀ {w : World} {A A' : Option Addr} {n c n' c' : Nat} {v v' : VP} {x : Bool}, Num w w.heap.size A n c v.i.natAbs → Num w w.heap.size A' n' c' v'.i.natAbs → Ok12 w → sameP v v' = x → Calls Tryz.prog 16 #[.agg #[.bool v.h, .bool v.t, .bool v.b, .bool (ngB v.i), .slice A n c, .int .i64 (v.k : Int), .string v.s], .agg #[.bool v'.h, .bool v'.t, .bool v'.b, .bool (ngB v'.i), .slice A' n' c', .int .i64 (v'.k : Int), .string v'.s]] w (Ret9 w (.bool x))
def RvA (w : World) (v : VA) (p e : Nat) (en : Ending) (w' : World) : Prop := ∃ (A : Option Addr) (n c : Nat), en = .returned (.tuple #[.agg #[.bool (ngB v.i), .slice A n c, .int .i64 (v.k : Int), .string v.s], .int .i64 (p : Int), .int .i64 (e : Int)]) ∧ Num w' w'.heap.size A n c v.i.natAbs ∧ Below w.heap.size w w'
def READA : Prop := ∀ {w : World} {B n c : Nat} {A : Option Addr} {L : List Tk4} {G : Nat → Nat → Int → Nat → Prop} {v : VA} {p e : Nat}, RdK w B A n c L → B ≤ w.heap.size → n ≤ 400 → Siz (L.map tok) G → Ok12 w → resA (amt (L.map tok) 0) = (v, p, e) → Calls Tryz.prog 17 #[.slice A n c, .int .i64 0] w (RvA w v p e)
def TEXTA : Prop := ∀ {w : World} {A : Option Addr} {n c : Nat} {v : VA} {T : ByteArray}, Num w w.heap.size A n c v.i.natAbs → n ≤ 900 → v.k ≤ 4010 → v.s.size ≤ 30 → Ok12 w → txtA v = bs9 T → Calls Tryz.prog 18 #[.agg #[.bool (ngB v.i), .slice A n c, .int .i64 (v.k : Int), .string v.s]] w (Ret9 w (.string T))
def AWK14 : Prop := ∀ w : World, Ok12 w → Calls Tryz.prog 5 #[] w (Ret9 w (.bool true))
theorem unt_bytes (u : Un) : ∀ c ∈ untT u, c < 256 := by
 unfold untT
 split
 ·intro c h
  rcases List.mem_append.1 h with h | h
  ·exact txtD_lt _ _ c h
  ·rcases List.mem_cons.1 h with rfl | h
   ·decide
   ·exact bs9_lt _ c h
 ·exact bs9_lt _
theorem jnT_bytes : ∀ l : List (List Nat), (∀ x ∈ l, ∀ c ∈ x, c < 256) → ∀ c ∈ jnT l, c < 256
 | [], _, c, h => by cases h
 | [x], h, c, hc => h x List.mem_cons_self c hc
 | x :: y :: r, h, c, hc => by
  rcases List.mem_append.1 hc with hc | hc
  ·exact h x List.mem_cons_self c hc
  ·rcases List.mem_cons.1 hc with rfl | hc
   ·decide
   ·rcases List.mem_cons.1 hc with rfl | hc
    ·decide
    ·exact jnT_bytes (y :: r) (fun z hz => h z (List.mem_cons_of_mem _ hz)) c hc
theorem cst_bytes (c : Co) : ∀ x ∈ cstT c, x < 256 := by
 unfold cstT
 intro x h
 rcases List.mem_append.1 h with h | h
 ·exact opn_lt _ x h
 ·rcases List.mem_append.1 h with h | h
  ·refine jnT_bytes _ (fun z hz y hy => ?_) x h
   unfold prtT at hz
   rcases List.mem_append.1 hz with hz | hz
   ·split at hz
    ·rw [List.mem_singleton.1 hz] at hy; exact unt_bytes _ y hy
    ·cases hz
   ·rcases List.mem_append.1 hz with hz | hz
    ·split at hz
     ·rw [List.mem_singleton.1 hz] at hy; exact bs9_lt _ y hy
     ·cases hz
    ·split at hz
     ·rw [List.mem_singleton.1 hz] at hy; exact qt_lt (bs9_lt _) y hy
     ·cases hz
  ·exact shut_lt _ x h
theorem prc_bytes (p : Bool × Un) : ∀ x ∈ prcT p, x < 256 := by
 unfold prcT
 intro x h
 rcases List.mem_append.1 h with h | h
 ·split at h
  ·rcases List.mem_cons.1 h with rfl | h
   ·decide
   ·rw [List.mem_singleton.1 h]; decide
  ·rw [List.mem_singleton.1 h]; decide
 ·split at h
  ·rcases List.mem_cons.1 h with rfl | h
   ·decide
   ·exact unt_bytes _ x h
  ·cases h
theorem fit14 {T : ByteArray} (h : Wgt (bs9 T) 4010) : Wgh.ws ((tks 1 (wdsOf (bs9 T))).map tok) ((tks 1 (wdsOf (bs9 T))).map tok).length ≤ 4010 := by
 cases hw : WD D12 N12 0 (bs9 T) with
 | inl e => unfold wdsOf; rw [hw]; exact Nat.zero_le _
 | inr ts =>
  have e : wdsOf (bs9 T) = ts := by unfold wdsOf; rw [hw]
  rw [e, ws_tks 1 ts (fun t ht => ((WD_all dayok12 _ (Nat.le_refl _) hw (bs9_lt T)).2.2 t ht).1)]
  exact h 0 ts hw
theorem wds14 {T : ByteArray} {us : List (Nat × List Nat)} (h : Wds (bs9 T) us) : (tks 1 (wdsOf (bs9 T))).map tok = us.map tk := by
 obtain ⟨ts, h1, h2⟩ := h 0
 have e : wdsOf (bs9 T) = ts := by unfold wdsOf; rw [h1]
 rw [e, tks_tk 1 h2]
theorem ws_many {L : List Tok} : ∀ n, n ≤ L.length → 11 * n ≤ Wgh.ws L n := by
 intro n
 induction n with
 | zero => intro _; exact Nat.zero_le _
 | succ n ih => intro h; have := ih (by omega); have := Wgh.ws_lt (L := L) (show n < n + 1 by omega) h; omega
theorem resU_ok {L : List Tok} {v : VU} {p : Nat} (h : resU (unt L 0) = (v, p, 0)) : ∃ u, unt L 0 = .inr (u, p) ∧ v = VU.of u := by
 cases hu : unt L 0 with
 | inl q =>
  obtain ⟨e, a⟩ := q
  rw [hu] at h
  exact absurd (congrArg (fun x => x.2.2) h) (unt_bad hu)
 | inr q =>
  obtain ⟨u, a⟩ := q
  rw [hu] at h
  have e1 : a = p := congrArg (fun x => x.2.1) h
  exact ⟨u, by rw [e1], (congrArg Prod.fst h).symm⟩
theorem resC_ok {L : List Tok} {v : VC} {p : Nat} (h : resC (cst L 0) = (v, p, 0)) : ∃ u, cst L 0 = .inr (u, p) ∧ v = VC.of u := by
 cases hu : cst L 0 with
 | inl q =>
  obtain ⟨e, a⟩ := q
  rw [hu] at h
  exact absurd (congrArg (fun x => x.2.2) h) (cst_bad hu)
 | inr q =>
  obtain ⟨u, a⟩ := q
  rw [hu] at h
  have e1 : a = p := congrArg (fun x => x.2.1) h
  exact ⟨u, by rw [e1], (congrArg Prod.fst h).symm⟩
theorem resP_ok {L : List Tok} {v : VP} {p : Nat} (h : resP (prc L 0) = (v, p, 0)) : ∃ u, prc L 0 = .inr (u, p) ∧ v = VP.of u := by
 cases hu : prc L 0 with
 | inl q =>
  obtain ⟨e, a⟩ := q
  rw [hu] at h
  exact absurd (congrArg (fun x => x.2.2) h) (prc_bad hu)
 | inr q =>
  obtain ⟨u, a⟩ := q
  rw [hu] at h
  have e1 : a = p := congrArg (fun x => x.2.1) h
  exact ⟨u, by rw [e1], (congrArg Prod.fst h).symm⟩
theorem u_few {L : List Tok} {v : VU} {p : Nat} (hL : FewL L) (h : resU (unt L 0) = (v, p, 0)) : (dg v.i.natAbs).length ≤ 900 ∧ v.k ≤ 4010 ∧ v.s.size ≤ 30 ∧ (txtU v).length ≤ 6000 ∧ Wgt (txtU v) 4010 := by
 obtain ⟨u, hu, rfl⟩ := resU_ok h
 have g := unt_small hL hu
 have g2 := g.fits
 have g3 := g.2.2
 rw [bs9_len] at g3
 exact ⟨g2.1, g2.2.1, g3, Nat.le_trans (untT_len g) (by decide), wgt_units g⟩
theorem c_few {L : List Tok} {v : VC} {p : Nat} (hL : FewL L) (h : resC (cst L 0) = (v, p, 0)) : (dg v.i.natAbs).length ≤ 900 ∧ v.k ≤ 4010 ∧ v.s.size ≤ 30 ∧ v.l.size ≤ 30 ∧ (txtC v).length ≤ 6000 ∧ Wgt (txtC v) 4010 := by
 obtain ⟨u, hu, rfl⟩ := resC_ok h
 cases u with
 | none => exact ⟨dg_none, Nat.zero_le _, Nat.zero_le _, Nat.zero_le _, Nat.zero_le _, wgt_nil.mono (by decide)⟩
 | some c =>
  have g := cst_small hL hu
  have g2 := g.1.fits
  have g3 := g.1.2.2
  have g4 := g.2
  rw [bs9_len] at g3 g4
  exact ⟨g2.1, g2.2.1, g3, g4, Nat.le_trans (cstT_len g) (by decide), wgt_cst g⟩
theorem p_few {L : List Tok} {v : VP} {p : Nat} (hL : FewL L) (h : resP (prc L 0) = (v, p, 0)) : (dg v.i.natAbs).length ≤ 900 ∧ v.k ≤ 4010 ∧ v.s.size ≤ 30 ∧ (txtP v).length ≤ 6000 ∧ Wgt (txtP v) 4010 := by
 obtain ⟨u, hu, rfl⟩ := resP_ok h
 cases u with
 | none => exact ⟨dg_none, Nat.zero_le _, Nat.zero_le _, Nat.zero_le _, wgt_nil.mono (by decide)⟩
 | some c =>
  obtain ⟨t, c⟩ := c
  have g := prc_small hL hu
  have g2 := g.fits
  have g3 := g.2.2
  rw [bs9_len] at g3
  exact ⟨g2.1, g2.2.1, g3, Nat.le_trans (prcT_len (p := (t, c)) g) (by decide), wgt_prc (p := (t, c)) g⟩
theorem u_back {L : List Tok} {v : VU} {p : Nat} {T : ByteArray} (hP : PrpL L) (h : resU (unt L 0) = (v, p, 0)) (hT : txtU v = bs9 T) : resU (unt ((tks 1 (wdsOf (bs9 T))).map tok) 0) = (v, (wdsOf (bs9 T)).length, 0) := by
 obtain ⟨u, hu, rfl⟩ := resU_ok h
 have g := unt_ok hP hu
 have hw : Wds (bs9 T) (unW u) := by rw [← hT]; exact wds_units g
 have e := wds14 hw
 have hl : ((tks 1 (wdsOf (bs9 T))).map tok).length = (wdsOf (bs9 T)).length := by unfold tks; rw [List.length_map, List.length_map]
 rw [unt_back g (by rw [List.drop_zero]; exact e) (Nat.zero_le _), hl]; rfl
theorem c_back {L : List Tok} {v : VC} {p : Nat} {T : ByteArray} (hP : PrpL L) (h : resC (cst L 0) = (v, p, 0)) (hT : txtC v = bs9 T) : resC (cst ((tks 1 (wdsOf (bs9 T))).map tok) 0) = (v, (wdsOf (bs9 T)).length, 0) := by
 obtain ⟨u, hu, rfl⟩ := resC_ok h
 have hl : ((tks 1 (wdsOf (bs9 T))).map tok).length = (wdsOf (bs9 T)).length := by unfold tks; rw [List.length_map, List.length_map]
 cases u with
 | none =>
  have hw : Wds (bs9 T) [] := by rw [← hT]; exact wds_nil
  have e := wds14 hw
  have h0 : (wdsOf (bs9 T)).length = 0 := by rw [← hl, e]; rfl
  rw [e, h0]; rfl
 | some c =>
  have g := cst_ok hP hu
  have hw : Wds (bs9 T) (cstW c) := by rw [← hT]; exact wds_cst g
  rw [cst_told g (wds14 hw), hl]; rfl
theorem p_back {L : List Tok} {v : VP} {p : Nat} {T : ByteArray} (hP : PrpL L) (h : resP (prc L 0) = (v, p, 0)) (hT : txtP v = bs9 T) : resP (prc ((tks 1 (wdsOf (bs9 T))).map tok) 0) = (v, (wdsOf (bs9 T)).length, 0) := by
 obtain ⟨u, hu, rfl⟩ := resP_ok h
 have hl : ((tks 1 (wdsOf (bs9 T))).map tok).length = (wdsOf (bs9 T)).length := by unfold tks; rw [List.length_map, List.length_map]
 cases u with
 | none =>
  have hw : Wds (bs9 T) [] := by rw [← hT]; exact wds_nil
  have e := wds14 hw
  have h0 : (wdsOf (bs9 T)).length = 0 := by rw [← hl, e]; rfl
  rw [e, h0]; rfl
 | some c =>
  obtain ⟨t, c⟩ := c
  have g := prc_ok hP hu
  have hw : Wds (bs9 T) (prcW (t, c)) := by rw [← hT]; exact wds_prc (p := (t, c)) g
  rw [prc_told (p := (t, c)) g (wds14 hw), hl]; rfl
theorem txtU_lt (v : VU) : ∀ c ∈ txtU v, c < 256 := unt_bytes _
theorem txtC_lt (v : VC) : ∀ c ∈ txtC v, c < 256 := by
 unfold txtC
 split
 ·exact cst_bytes _
 ·intro c h; cases h
theorem txtP_lt (v : VP) : ∀ c ∈ txtP v, c < 256 := by
 unfold txtP
 split
 ·exact prc_bytes _
 ·intro c h; cases h
structure S14 (w0 w : World) (l : List (Option Addr × Nat × Nat × Nat)) (bs : List (Nat × Array Value × TypeId)) : Prop where
 bel : Below w0.heap.size w0 w
 num : ∀ q ∈ l, Num w w.heap.size q.1 q.2.1 q.2.2.1 q.2.2.2
 blk : ∀ q ∈ bs, Bk w q.1 q.2.1 q.2.2
section
variable {w0 w w' : World} {l : List (Option Addr × Nat × Nat × Nat)} {bs : List (Nat × Array Value × TypeId)}
theorem S14.start (w : World) : S14 w w [] [] := ⟨Below.refl _ _, fun q hq => (by cases hq), fun q hq => (by cases hq)⟩
theorem S14.step (h : S14 w0 w l bs) (hb : Below w.heap.size w w') : S14 w0 w' l bs := ⟨h.bel.trans (hb.mono h.bel.size), fun q hq => (h.num q hq).on hb, fun q hq => (h.blk q hq).on hb⟩
theorem S14.push (h : S14 w0 w l bs) (hb : Below w.heap.size w w') {A : Option Addr} {n c a : Nat} (hn : Num w' w'.heap.size A n c a) : S14 w0 w' ((A, n, c, a) :: l) bs := by
 have h2 := h.step hb
 refine ⟨h2.bel, fun q hq => ?_, h2.blk⟩
 rcases List.mem_cons.1 hq with rfl | hq
 ·exact hn
 ·exact h2.num q hq
theorem S14.lay (h : S14 w0 w l bs) (xs : Array Value) (t : TypeId) {g : Nat} (hg : g = w.heap.size) : S14 w0 (w.alloc (.cells xs t)) l ((g, xs, t) :: bs) := by
 have h2 := h.step ((Below.refl _ _).alloc (Nat.le_refl _) (.cells xs t))
 refine ⟨h2.bel, h2.num, fun q hq => ?_⟩
 rcases List.mem_cons.1 hq with rfl | hq
 ·exact Bk.new w xs t hg
 ·exact h2.blk q hq
theorem S14.bare (h : Below w0.heap.size w0 w) : S14 w0 w [] [] := ⟨h, fun q hq => (by cases hq), fun q hq => (by cases hq)⟩
theorem S14.got {A : Option Addr} {n c a : Nat} (h : Hid (S14 w0 w l bs)) (hm : (A, n, c, a) ∈ l) : Num w w.heap.size A n c a := h.out.num _ hm
theorem S14.at_ {g : Nat} {xs : Array Value} {t : TypeId} (h : Hid (S14 w0 w l bs)) (hm : (g, xs, t) ∈ bs) (j : Nat) : w.cell? ⟨g, j, none⟩ = xs[j]? := (h.out.blk _ hm).cell j
theorem S14.c4 {g : Nat} {t : TypeId} {x0 x1 x2 x3 : Value} (h : Hid (S14 w0 w l bs)) (hm : (g, #[x0, x1, x2, x3], t) ∈ bs) : w.cell? ⟨g, 0, none⟩ = some x0 ∧ w.cell? ⟨g, 1, none⟩ = some x1 ∧ w.cell? ⟨g, 2, none⟩ = some x2 ∧ w.cell? ⟨g, 3, none⟩ = some x3 := ⟨S14.at_ h hm 0, S14.at_ h hm 1, S14.at_ h hm 2, S14.at_ h hm 3⟩
theorem S14.c5 {g : Nat} {t : TypeId} {x0 x1 x2 x3 x4 : Value} (h : Hid (S14 w0 w l bs)) (hm : (g, #[x0, x1, x2, x3, x4], t) ∈ bs) : w.cell? ⟨g, 0, none⟩ = some x0 ∧ w.cell? ⟨g, 1, none⟩ = some x1 ∧ w.cell? ⟨g, 2, none⟩ = some x2 ∧ w.cell? ⟨g, 3, none⟩ = some x3 ∧ w.cell? ⟨g, 4, none⟩ = some x4 := ⟨S14.at_ h hm 0, S14.at_ h hm 1, S14.at_ h hm 2, S14.at_ h hm 3, S14.at_ h hm 4⟩
theorem S14.c7 {g : Nat} {t : TypeId} {x0 x1 x2 x3 x4 x5 x6 : Value} (h : Hid (S14 w0 w l bs)) (hm : (g, #[x0, x1, x2, x3, x4, x5, x6], t) ∈ bs) : w.cell? ⟨g, 0, none⟩ = some x0 ∧ w.cell? ⟨g, 1, none⟩ = some x1 ∧ w.cell? ⟨g, 2, none⟩ = some x2 ∧ w.cell? ⟨g, 3, none⟩ = some x3 ∧ w.cell? ⟨g, 4, none⟩ = some x4 ∧ w.cell? ⟨g, 5, none⟩ = some x5 ∧ w.cell? ⟨g, 6, none⟩ = some x6 := ⟨S14.at_ h hm 0, S14.at_ h hm 1, S14.at_ h hm 2, S14.at_ h hm 3, S14.at_ h hm 4, S14.at_ h hm 5, S14.at_ h hm 6⟩
theorem S14.c11 {g : Nat} {t : TypeId} {x0 x1 x2 x3 x4 x5 x6 x7 x8 x9 x10 : Value} (h : Hid (S14 w0 w l bs)) (hm : (g, #[x0, x1, x2, x3, x4, x5, x6, x7, x8, x9, x10], t) ∈ bs) : w.cell? ⟨g, 0, none⟩ = some x0 ∧ w.cell? ⟨g, 1, none⟩ = some x1 ∧ w.cell? ⟨g, 2, none⟩ = some x2 ∧ w.cell? ⟨g, 3, none⟩ = some x3 ∧ w.cell? ⟨g, 4, none⟩ = some x4 ∧ w.cell? ⟨g, 5, none⟩ = some x5 ∧ w.cell? ⟨g, 6, none⟩ = some x6 ∧ w.cell? ⟨g, 7, none⟩ = some x7 ∧ w.cell? ⟨g, 8, none⟩ = some x8 ∧ w.cell? ⟨g, 9, none⟩ = some x9 ∧ w.cell? ⟨g, 10, none⟩ = some x10 := ⟨S14.at_ h hm 0, S14.at_ h hm 1, S14.at_ h hm 2, S14.at_ h hm 3, S14.at_ h hm 4, S14.at_ h hm 5, S14.at_ h hm 6, S14.at_ h hm 7, S14.at_ h hm 8, S14.at_ h hm 9, S14.at_ h hm 10⟩
end
theorem back14_law (RU : READU) (TU : TEXTU) (SU : SAMEU) (RC : READC) (TC : TEXTC) (SC : SAMEC) (RP : READP) (TP : TEXTP) (SP : SAMEP) (AW : AWK14) {w : World} (hok : Ok12 w) {A : Option Addr} {n c : Nat} {L : List Tk4} (hr : RdK w w.heap.size A n c L) : Calls Tryz.prog 3 #[.slice A n c] w (Ret9 w (.bool true)) := by
 have OK : Hid (∀ {W : World}, Below w.heap.size w W → Ok12 W) := fun hb => okw12 hok hb
 have RD : Hid (∀ {W : World}, Below w.heap.size w W → RdK W w.heap.size A n c L) := fun hb => hr.on (Nat.le_refl _) hb
 have HN : Hid (n = L.length) := hr.len
 have E := Lib.hid (S14.start w)
 clear hok hr
 go_enter Tryz.func3, Tryz.ntmps3
 go_wp2_with fail
 refine (few14 (RD.out E.out.bel) E.out.bel.size).mono ?_; rintro e w1 ⟨b, rfl, hF, hb⟩
 replace E := Lib.hid (E.out.step hb); clear hb
 cases b with
 | false =>
  go_wp2_with fail
  refine (AW _ (OK.out E.out.bel)).mono ?_; rintro e w2 ⟨rfl, hb⟩
  replace E := Lib.hid (E.out.step hb); clear hb
  go_wp2_with fail
  go_ret
  exact ⟨rfl, E.out.bel⟩
 | true =>
  have FL := Lib.hid (hF rfl)
  clear hF
  have SZ : Hid (Siz (L.map tok) (Grt (L.map tok))) := siz_many FL.out.2 (by have := FL.out.1; omega)
  have hn4 : n ≤ 400 := by have h1 := FL.out.1; rw [List.length_map] at h1; have := HN.out; omega
  have PL : Hid (plnB L = true → PrpL (L.map tok)) := pln_prp
  go_wp2_with fail
  obtain ⟨⟨⟨vb, vi, vk, vs⟩, p2, e2⟩, hU⟩ : ∃ x, resU (unt (L.map tok) 0) = x := ⟨_, rfl⟩
  have HU := Lib.hid hU
  clear hU
  refine (RU (RD.out E.out.bel) E.out.bel.size hn4 SZ.out (OK.out E.out.bel) HU.out).mono ?_; rintro e w2 ⟨A2, n2, c2, rfl, hn2, hb⟩
  replace E := Lib.hid (E.out.push hb hn2); clear hb hn2
  go_upto_if 35 with fail
  replace E := Lib.hid (E.out.lay #[.bool vb, .bool (ngB vi), .slice A2 n2 c2, .int .i64 (vk : Int), .string vs] 30 rfl)
  generalize hW : World.alloc w2 _ = W3 at E ⊢
  clear hW
  generalize w2.heap.size = g at E ⊢
  go_cut [] from 28 (fun wx => Below w.heap.size w wx)
  case first =>
   by_cases he : e2 = 0
   ·have d : ((e2 : Int) == 0) = true := by rw [he]; rfl
    have hu2 := HU.out
    rw [he] at hu2
    have HU2 := Lib.hid hu2
    clear he HU hu2
    obtain ⟨f1, f2, f3, f4, f5⟩ := u_few FL.out HU2.out
    dsimp only at f1 f2 f3
    obtain ⟨T, hT⟩ : ∃ T, txtU ⟨vb, vi, vk, vs⟩ = bs9 T := ⟨_, (bs9_st9 (txtU_lt _)).symm⟩
    have HT := Lib.hid hT
    have hTs : T.size ≤ 6000 := by rw [← bs9_len, ← hT]; exact f4
    have HF : Hid (Wgh.ws ((tks 1 (wdsOf (bs9 T))).map tok) ((tks 1 (wdsOf (bs9 T))).map tok).length ≤ 4010) := fit14 (by rw [← hT]; exact f5)
    have hn2 : n2 ≤ 900 := by have := (S14.got E (A := A2) (n := n2) (c := c2) (a := vi.natAbs) (by simp)).len; omega
    clear f4 f5 hT
    have q0 : W3.cell? ⟨g, 0, none⟩ = some (.bool vb) := S14.at_ E (xs := #[.bool vb, .bool (ngB vi), .slice A2 n2 c2, .int .i64 (vk : Int), .string vs]) (t := 30) List.mem_cons_self 0
    have q1 : W3.cell? ⟨g, 1, none⟩ = some (.bool (ngB vi)) := S14.at_ E (xs := #[.bool vb, .bool (ngB vi), .slice A2 n2 c2, .int .i64 (vk : Int), .string vs]) (t := 30) List.mem_cons_self 1
    have q2 : W3.cell? ⟨g, 2, none⟩ = some (.slice A2 n2 c2) := S14.at_ E (xs := #[.bool vb, .bool (ngB vi), .slice A2 n2 c2, .int .i64 (vk : Int), .string vs]) (t := 30) List.mem_cons_self 2
    have q3 : W3.cell? ⟨g, 3, none⟩ = some (.int .i64 (vk : Int)) := S14.at_ E (xs := #[.bool vb, .bool (ngB vi), .slice A2 n2 c2, .int .i64 (vk : Int), .string vs]) (t := 30) List.mem_cons_self 3
    have q4 : W3.cell? ⟨g, 4, none⟩ = some (.string vs) := S14.at_ E (xs := #[.bool vb, .bool (ngB vi), .slice A2 n2 c2, .int .i64 (vk : Int), .string vs]) (t := 30) List.mem_cons_self 4
    go_wp2_with fail
    clear q0 q1 q2 q3 q4
    refine (TU (v := ⟨vb, vi, vk, vs⟩) (S14.got E (A := A2) (n := n2) (c := c2) (a := vi.natAbs) (by simp)) hn2 f2 f3 (OK.out E.out.bel) HT.out).mono ?_; rintro e w4 ⟨rfl, hb⟩
    replace E := Lib.hid (E.out.step hb); clear hb
    go_wp2_with fail
    refine (words14 (OK.out E.out.bel) hTs).mono ?_; rintro e w5 ⟨A5, n5, c5, rfl, hr5, hb⟩
    replace E := Lib.hid (E.out.step hb); clear hb
    have R5 := Lib.hid hr5
    have hn5 : n5 ≤ 400 := by have h1 := ws_many (L := (tks 1 (wdsOf (bs9 T))).map tok) _ (Nat.le_refl _); have h2 := HF.out; have h3 := R5.out.len; rw [List.length_map] at h1 h2; omega
    have H5 : Hid (n5 = (wdsOf (bs9 T)).length) := by have h3 := R5.out.len; unfold tks at h3; rw [List.length_map] at h3; exact h3
    clear hr5
    go_wp2_with fail
    cases hpl : plnB L with
    | true =>
     have HPL : Hid (plnB L = true) := hpl
     clear hpl
     have HB := Lib.hid (u_back (PL.out HPL.out) HU2.out HT.out)
     rw [← H5.out] at HB
     refine (RU R5.out (Nat.le_refl _) hn5 (siz_weight HF.out) (OK.out E.out.bel) HB.out).mono ?_; rintro e w6 ⟨A6, n6, c6, rfl, hn6, hb⟩
     replace E := Lib.hid (E.out.push hb hn6); clear hb hn6
     have hn6 : n6 ≤ 900 := by have := (S14.got E (A := A6) (n := n6) (c := c6) (a := vi.natAbs) (by simp)).len; omega
     go_upto_region 7 with fail
     replace E := Lib.hid (E.out.lay #[.bool vb, .bool (ngB vi), .slice A6 n6 c6, .int .i64 (vk : Int), .string vs] 30 rfl)
     generalize hW : World.alloc w6 _ = W7 at E ⊢
     clear hW
     generalize w6.heap.size = g7 at E ⊢
     go_wp2_with fail
     refine (plain14 (OK.out E.out.bel) (RD.out E.out.bel) E.out.bel.size FL.out).mono ?_; rw [HPL.out]; rintro e w8 ⟨rfl, hb⟩
     replace E := Lib.hid (E.out.step hb); clear hb
     obtain ⟨q0, q1, q2, q3, q4⟩ := S14.c5 (g := g) E (List.mem_cons_of_mem _ List.mem_cons_self)
     obtain ⟨r0, r1, r2, r3, r4⟩ := S14.c5 (g := g7) E List.mem_cons_self
     go_wp2_with fail
     clear q0 r0 q1 r1 q2 r2 q3 r3 q4 r4
     refine (SU (v := ⟨vb, vi, vk, vs⟩) (v' := ⟨vb, vi, vk, vs⟩) (S14.got E (A := A2) (n := n2) (c := c2) (a := vi.natAbs) (by simp)) (S14.got E (A := A6) (n := n6) (c := c6) (a := vi.natAbs) (by simp)) (OK.out E.out.bel) (sameU_refl _)).mono ?_; rintro e w9 ⟨rfl, hb⟩
     replace E := Lib.hid (E.out.step hb); clear hb
     go_wp2_with fail
     go_meet
     case rel => exact E.out.bel
    | false =>
     have HPL : Hid (plnB L = false) := hpl
     clear hpl
     obtain ⟨⟨⟨xb, xi, xk, xs⟩, p6, e6⟩, hx⟩ : ∃ x, resU (unt ((tks 1 (wdsOf (bs9 T))).map tok) 0) = x := ⟨_, rfl⟩
     have HB := Lib.hid hx
     clear hx
     refine (RU R5.out (Nat.le_refl _) hn5 (siz_weight HF.out) (OK.out E.out.bel) HB.out).mono ?_; rintro e w6 ⟨A6, n6, c6, rfl, hn6, hb⟩
     replace E := Lib.hid (E.out.push hb hn6); clear hb hn6
     go_upto_region 7 with fail
     replace E := Lib.hid (E.out.lay #[.bool xb, .bool (ngB xi), .slice A6 n6 c6, .int .i64 (xk : Int), .string xs] 30 rfl)
     generalize hW : World.alloc w6 _ = W7 at E ⊢
     clear hW
     generalize w6.heap.size = g7 at E ⊢
     go_wp2_with fail
     refine (plain14 (OK.out E.out.bel) (RD.out E.out.bel) E.out.bel.size FL.out).mono ?_; rw [HPL.out]; rintro e w8 ⟨rfl, hb⟩
     replace E := Lib.hid (E.out.step hb); clear hb
     go_wp2_with fail
     go_meet
     case rel => exact E.out.bel
   ·have d : ((e2 : Int) == 0) = false := by rw [beq_eq_false_iff_ne]; omega
    go_wp2_with fail
    go_meet
    case rel => exact E.out.bel
  case rest =>
   clear E
   have E := Lib.hid (S14.bare hcut)
   clear hcut
   go_wp2_with fail
   obtain ⟨⟨⟨vh, vt, vb, vi, vk, vs, vy, vm, vd, vl⟩, p2, e2⟩, hU⟩ : ∃ x, resC (cst (L.map tok) 0) = x := ⟨_, rfl⟩
   have HU := Lib.hid hU
   clear hU
   refine (RC (RD.out E.out.bel) E.out.bel.size hn4 SZ.out (OK.out E.out.bel) HU.out).mono ?_; rintro e w2 ⟨A2, n2, c2, rfl, hn2, hb⟩
   replace E := Lib.hid (E.out.push hb hn2); clear hb hn2
   go_upto_if 70 with fail
   replace E := Lib.hid (E.out.lay #[.bool vh, .bool vt, .bool vb, .bool (ngB vi), .slice A2 n2 c2, .int .i64 (vk : Int), .string vs, .int .i64 vy, .int .i64 vm, .int .i64 vd, .string vl] 40 rfl)
   generalize hW : World.alloc w2 _ = W3 at E ⊢
   clear hW
   generalize w2.heap.size = g at E ⊢
   go_cut [] from 63 (fun wx => Below w.heap.size w wx)
   case first =>
    by_cases he : e2 = 0
    ·have d : ((e2 : Int) == 0) = true := by rw [he]; rfl
     have hu2 := HU.out
     rw [he] at hu2
     have HU2 := Lib.hid hu2
     clear he HU hu2
     obtain ⟨f1, f2, f3, f6, f4, f5⟩ := c_few FL.out HU2.out
     dsimp only at f1 f2 f3
     obtain ⟨T, hT⟩ : ∃ T, txtC ⟨vh, vt, vb, vi, vk, vs, vy, vm, vd, vl⟩ = bs9 T := ⟨_, (bs9_st9 (txtC_lt _)).symm⟩
     have HT := Lib.hid hT
     have hTs : T.size ≤ 6000 := by rw [← bs9_len, ← hT]; exact f4
     have HF : Hid (Wgh.ws ((tks 1 (wdsOf (bs9 T))).map tok) ((tks 1 (wdsOf (bs9 T))).map tok).length ≤ 4010) := fit14 (by rw [← hT]; exact f5)
     have hn2 : n2 ≤ 900 := by have := (S14.got E (A := A2) (n := n2) (c := c2) (a := vi.natAbs) (by simp)).len; omega
     clear f4 f5 hT
     have q0 : W3.cell? ⟨g, 0, none⟩ = some (.bool vh) := S14.at_ E (xs := #[.bool vh, .bool vt, .bool vb, .bool (ngB vi), .slice A2 n2 c2, .int .i64 (vk : Int), .string vs, .int .i64 vy, .int .i64 vm, .int .i64 vd, .string vl]) (t := 40) List.mem_cons_self 0
     have q1 : W3.cell? ⟨g, 1, none⟩ = some (.bool vt) := S14.at_ E (xs := #[.bool vh, .bool vt, .bool vb, .bool (ngB vi), .slice A2 n2 c2, .int .i64 (vk : Int), .string vs, .int .i64 vy, .int .i64 vm, .int .i64 vd, .string vl]) (t := 40) List.mem_cons_self 1
     have q2 : W3.cell? ⟨g, 2, none⟩ = some (.bool vb) := S14.at_ E (xs := #[.bool vh, .bool vt, .bool vb, .bool (ngB vi), .slice A2 n2 c2, .int .i64 (vk : Int), .string vs, .int .i64 vy, .int .i64 vm, .int .i64 vd, .string vl]) (t := 40) List.mem_cons_self 2
     have q3 : W3.cell? ⟨g, 3, none⟩ = some (.bool (ngB vi)) := S14.at_ E (xs := #[.bool vh, .bool vt, .bool vb, .bool (ngB vi), .slice A2 n2 c2, .int .i64 (vk : Int), .string vs, .int .i64 vy, .int .i64 vm, .int .i64 vd, .string vl]) (t := 40) List.mem_cons_self 3
     have q4 : W3.cell? ⟨g, 4, none⟩ = some (.slice A2 n2 c2) := S14.at_ E (xs := #[.bool vh, .bool vt, .bool vb, .bool (ngB vi), .slice A2 n2 c2, .int .i64 (vk : Int), .string vs, .int .i64 vy, .int .i64 vm, .int .i64 vd, .string vl]) (t := 40) List.mem_cons_self 4
     have q5 : W3.cell? ⟨g, 5, none⟩ = some (.int .i64 (vk : Int)) := S14.at_ E (xs := #[.bool vh, .bool vt, .bool vb, .bool (ngB vi), .slice A2 n2 c2, .int .i64 (vk : Int), .string vs, .int .i64 vy, .int .i64 vm, .int .i64 vd, .string vl]) (t := 40) List.mem_cons_self 5
     have q6 : W3.cell? ⟨g, 6, none⟩ = some (.string vs) := S14.at_ E (xs := #[.bool vh, .bool vt, .bool vb, .bool (ngB vi), .slice A2 n2 c2, .int .i64 (vk : Int), .string vs, .int .i64 vy, .int .i64 vm, .int .i64 vd, .string vl]) (t := 40) List.mem_cons_self 6
     have q7 : W3.cell? ⟨g, 7, none⟩ = some (.int .i64 vy) := S14.at_ E (xs := #[.bool vh, .bool vt, .bool vb, .bool (ngB vi), .slice A2 n2 c2, .int .i64 (vk : Int), .string vs, .int .i64 vy, .int .i64 vm, .int .i64 vd, .string vl]) (t := 40) List.mem_cons_self 7
     have q8 : W3.cell? ⟨g, 8, none⟩ = some (.int .i64 vm) := S14.at_ E (xs := #[.bool vh, .bool vt, .bool vb, .bool (ngB vi), .slice A2 n2 c2, .int .i64 (vk : Int), .string vs, .int .i64 vy, .int .i64 vm, .int .i64 vd, .string vl]) (t := 40) List.mem_cons_self 8
     have q9 : W3.cell? ⟨g, 9, none⟩ = some (.int .i64 vd) := S14.at_ E (xs := #[.bool vh, .bool vt, .bool vb, .bool (ngB vi), .slice A2 n2 c2, .int .i64 (vk : Int), .string vs, .int .i64 vy, .int .i64 vm, .int .i64 vd, .string vl]) (t := 40) List.mem_cons_self 9
     have q10 : W3.cell? ⟨g, 10, none⟩ = some (.string vl) := S14.at_ E (xs := #[.bool vh, .bool vt, .bool vb, .bool (ngB vi), .slice A2 n2 c2, .int .i64 (vk : Int), .string vs, .int .i64 vy, .int .i64 vm, .int .i64 vd, .string vl]) (t := 40) List.mem_cons_self 10
     go_wp2_with fail
     clear q0 q1 q2 q3 q4 q5 q6 q7 q8 q9 q10
     refine (TC (v := ⟨vh, vt, vb, vi, vk, vs, vy, vm, vd, vl⟩) (S14.got E (A := A2) (n := n2) (c := c2) (a := vi.natAbs) (by simp)) hn2 f2 f3 f6 (OK.out E.out.bel) HT.out).mono ?_; rintro e w4 ⟨rfl, hb⟩
     replace E := Lib.hid (E.out.step hb); clear hb
     go_wp2_with fail
     refine (words14 (OK.out E.out.bel) hTs).mono ?_; rintro e w5 ⟨A5, n5, c5, rfl, hr5, hb⟩
     replace E := Lib.hid (E.out.step hb); clear hb
     have R5 := Lib.hid hr5
     have hn5 : n5 ≤ 400 := by have h1 := ws_many (L := (tks 1 (wdsOf (bs9 T))).map tok) _ (Nat.le_refl _); have h2 := HF.out; have h3 := R5.out.len; rw [List.length_map] at h1 h2; omega
     have H5 : Hid (n5 = (wdsOf (bs9 T)).length) := by have h3 := R5.out.len; unfold tks at h3; rw [List.length_map] at h3; exact h3
     clear hr5
     go_wp2_with fail
     cases hpl : plnB L with
     | true =>
      have HPL : Hid (plnB L = true) := hpl
      clear hpl
      have HB := Lib.hid (c_back (PL.out HPL.out) HU2.out HT.out)
      rw [← H5.out] at HB
      refine (RC R5.out (Nat.le_refl _) hn5 (siz_weight HF.out) (OK.out E.out.bel) HB.out).mono ?_; rintro e w6 ⟨A6, n6, c6, rfl, hn6, hb⟩
      replace E := Lib.hid (E.out.push hb hn6); clear hb hn6
      have hn6 : n6 ≤ 900 := by have := (S14.got E (A := A6) (n := n6) (c := c6) (a := vi.natAbs) (by simp)).len; omega
      go_upto_region 13 with fail
      replace E := Lib.hid (E.out.lay #[.bool vh, .bool vt, .bool vb, .bool (ngB vi), .slice A6 n6 c6, .int .i64 (vk : Int), .string vs, .int .i64 vy, .int .i64 vm, .int .i64 vd, .string vl] 40 rfl)
      generalize hW : World.alloc w6 _ = W7 at E ⊢
      clear hW
      generalize w6.heap.size = g7 at E ⊢
      go_wp2_with fail
      refine (plain14 (OK.out E.out.bel) (RD.out E.out.bel) E.out.bel.size FL.out).mono ?_; rw [HPL.out]; rintro e w8 ⟨rfl, hb⟩
      replace E := Lib.hid (E.out.step hb); clear hb
      obtain ⟨q0, q1, q2, q3, q4, q5, q6, q7, q8, q9, q10⟩ := S14.c11 (g := g) E (List.mem_cons_of_mem _ List.mem_cons_self)
      obtain ⟨r0, r1, r2, r3, r4, r5, r6, r7, r8, r9, r10⟩ := S14.c11 (g := g7) E List.mem_cons_self
      go_wp2_with fail
      clear q0 r0 q1 r1 q2 r2 q3 r3 q4 r4 q5 r5 q6 r6 q7 r7 q8 r8 q9 r9 q10 r10
      refine (SC (v := ⟨vh, vt, vb, vi, vk, vs, vy, vm, vd, vl⟩) (v' := ⟨vh, vt, vb, vi, vk, vs, vy, vm, vd, vl⟩) (S14.got E (A := A2) (n := n2) (c := c2) (a := vi.natAbs) (by simp)) (S14.got E (A := A6) (n := n6) (c := c6) (a := vi.natAbs) (by simp)) (OK.out E.out.bel) (sameC_refl _)).mono ?_; rintro e w9 ⟨rfl, hb⟩
      replace E := Lib.hid (E.out.step hb); clear hb
      go_wp2_with fail
      go_meet
      case rel => exact E.out.bel
     | false =>
      have HPL : Hid (plnB L = false) := hpl
      clear hpl
      obtain ⟨⟨⟨xh, xt, xb, xi, xk, xs, xy, xm, xd, xl⟩, p6, e6⟩, hx⟩ : ∃ x, resC (cst ((tks 1 (wdsOf (bs9 T))).map tok) 0) = x := ⟨_, rfl⟩
      have HB := Lib.hid hx
      clear hx
      refine (RC R5.out (Nat.le_refl _) hn5 (siz_weight HF.out) (OK.out E.out.bel) HB.out).mono ?_; rintro e w6 ⟨A6, n6, c6, rfl, hn6, hb⟩
      replace E := Lib.hid (E.out.push hb hn6); clear hb hn6
      go_upto_region 13 with fail
      replace E := Lib.hid (E.out.lay #[.bool xh, .bool xt, .bool xb, .bool (ngB xi), .slice A6 n6 c6, .int .i64 (xk : Int), .string xs, .int .i64 xy, .int .i64 xm, .int .i64 xd, .string xl] 40 rfl)
      generalize hW : World.alloc w6 _ = W7 at E ⊢
      clear hW
      generalize w6.heap.size = g7 at E ⊢
      go_wp2_with fail
      refine (plain14 (OK.out E.out.bel) (RD.out E.out.bel) E.out.bel.size FL.out).mono ?_; rw [HPL.out]; rintro e w8 ⟨rfl, hb⟩
      replace E := Lib.hid (E.out.step hb); clear hb
      go_wp2_with fail
      go_meet
      case rel => exact E.out.bel
    ·have d : ((e2 : Int) == 0) = false := by rw [beq_eq_false_iff_ne]; omega
     go_wp2_with fail
     go_meet
     case rel => exact E.out.bel
   case rest =>
    clear E
    have E := Lib.hid (S14.bare hcut)
    clear hcut
    go_wp2_with fail
    obtain ⟨⟨⟨vh, vt, vb, vi, vk, vs⟩, p2, e2⟩, hU⟩ : ∃ x, resP (prc (L.map tok) 0) = x := ⟨_, rfl⟩
    have HU := Lib.hid hU
    clear hU
    refine (RP (RD.out E.out.bel) E.out.bel.size hn4 SZ.out (OK.out E.out.bel) HU.out).mono ?_; rintro e w2 ⟨A2, n2, c2, rfl, hn2, hb⟩
    replace E := Lib.hid (E.out.push hb hn2); clear hb hn2
    go_upto_if 105 with fail
    replace E := Lib.hid (E.out.lay #[.bool vh, .bool vt, .bool vb, .bool (ngB vi), .slice A2 n2 c2, .int .i64 (vk : Int), .string vs] 46 rfl)
    generalize hW : World.alloc w2 _ = W3 at E ⊢
    clear hW
    generalize w2.heap.size = g at E ⊢
    go_cut [] from 98 (fun wx => Below w.heap.size w wx)
    case first =>
     by_cases he : e2 = 0
     ·have d : ((e2 : Int) == 0) = true := by rw [he]; rfl
      have hu2 := HU.out
      rw [he] at hu2
      have HU2 := Lib.hid hu2
      clear he HU hu2
      obtain ⟨f1, f2, f3, f4, f5⟩ := p_few FL.out HU2.out
      dsimp only at f1 f2 f3
      obtain ⟨T, hT⟩ : ∃ T, txtP ⟨vh, vt, vb, vi, vk, vs⟩ = bs9 T := ⟨_, (bs9_st9 (txtP_lt _)).symm⟩
      have HT := Lib.hid hT
      have hTs : T.size ≤ 6000 := by rw [← bs9_len, ← hT]; exact f4
      have HF : Hid (Wgh.ws ((tks 1 (wdsOf (bs9 T))).map tok) ((tks 1 (wdsOf (bs9 T))).map tok).length ≤ 4010) := fit14 (by rw [← hT]; exact f5)
      have hn2 : n2 ≤ 900 := by have := (S14.got E (A := A2) (n := n2) (c := c2) (a := vi.natAbs) (by simp)).len; omega
      clear f4 f5 hT
      have q0 : W3.cell? ⟨g, 0, none⟩ = some (.bool vh) := S14.at_ E (xs := #[.bool vh, .bool vt, .bool vb, .bool (ngB vi), .slice A2 n2 c2, .int .i64 (vk : Int), .string vs]) (t := 46) List.mem_cons_self 0
      have q1 : W3.cell? ⟨g, 1, none⟩ = some (.bool vt) := S14.at_ E (xs := #[.bool vh, .bool vt, .bool vb, .bool (ngB vi), .slice A2 n2 c2, .int .i64 (vk : Int), .string vs]) (t := 46) List.mem_cons_self 1
      have q2 : W3.cell? ⟨g, 2, none⟩ = some (.bool vb) := S14.at_ E (xs := #[.bool vh, .bool vt, .bool vb, .bool (ngB vi), .slice A2 n2 c2, .int .i64 (vk : Int), .string vs]) (t := 46) List.mem_cons_self 2
      have q3 : W3.cell? ⟨g, 3, none⟩ = some (.bool (ngB vi)) := S14.at_ E (xs := #[.bool vh, .bool vt, .bool vb, .bool (ngB vi), .slice A2 n2 c2, .int .i64 (vk : Int), .string vs]) (t := 46) List.mem_cons_self 3
      have q4 : W3.cell? ⟨g, 4, none⟩ = some (.slice A2 n2 c2) := S14.at_ E (xs := #[.bool vh, .bool vt, .bool vb, .bool (ngB vi), .slice A2 n2 c2, .int .i64 (vk : Int), .string vs]) (t := 46) List.mem_cons_self 4
      have q5 : W3.cell? ⟨g, 5, none⟩ = some (.int .i64 (vk : Int)) := S14.at_ E (xs := #[.bool vh, .bool vt, .bool vb, .bool (ngB vi), .slice A2 n2 c2, .int .i64 (vk : Int), .string vs]) (t := 46) List.mem_cons_self 5
      have q6 : W3.cell? ⟨g, 6, none⟩ = some (.string vs) := S14.at_ E (xs := #[.bool vh, .bool vt, .bool vb, .bool (ngB vi), .slice A2 n2 c2, .int .i64 (vk : Int), .string vs]) (t := 46) List.mem_cons_self 6
      go_wp2_with fail
      clear q0 q1 q2 q3 q4 q5 q6
      refine (TP (v := ⟨vh, vt, vb, vi, vk, vs⟩) (S14.got E (A := A2) (n := n2) (c := c2) (a := vi.natAbs) (by simp)) hn2 f2 f3 (OK.out E.out.bel) HT.out).mono ?_; rintro e w4 ⟨rfl, hb⟩
      replace E := Lib.hid (E.out.step hb); clear hb
      go_wp2_with fail
      refine (words14 (OK.out E.out.bel) hTs).mono ?_; rintro e w5 ⟨A5, n5, c5, rfl, hr5, hb⟩
      replace E := Lib.hid (E.out.step hb); clear hb
      have R5 := Lib.hid hr5
      have hn5 : n5 ≤ 400 := by have h1 := ws_many (L := (tks 1 (wdsOf (bs9 T))).map tok) _ (Nat.le_refl _); have h2 := HF.out; have h3 := R5.out.len; rw [List.length_map] at h1 h2; omega
      have H5 : Hid (n5 = (wdsOf (bs9 T)).length) := by have h3 := R5.out.len; unfold tks at h3; rw [List.length_map] at h3; exact h3
      clear hr5
      go_wp2_with fail
      cases hpl : plnB L with
      | true =>
       have HPL : Hid (plnB L = true) := hpl
       clear hpl
       have HB := Lib.hid (p_back (PL.out HPL.out) HU2.out HT.out)
       rw [← H5.out] at HB
       refine (RP R5.out (Nat.le_refl _) hn5 (siz_weight HF.out) (OK.out E.out.bel) HB.out).mono ?_; rintro e w6 ⟨A6, n6, c6, rfl, hn6, hb⟩
       replace E := Lib.hid (E.out.push hb hn6); clear hb hn6
       have hn6 : n6 ≤ 900 := by have := (S14.got E (A := A6) (n := n6) (c := c6) (a := vi.natAbs) (by simp)).len; omega
       go_upto_region 19 with fail
       replace E := Lib.hid (E.out.lay #[.bool vh, .bool vt, .bool vb, .bool (ngB vi), .slice A6 n6 c6, .int .i64 (vk : Int), .string vs] 46 rfl)
       generalize hW : World.alloc w6 _ = W7 at E ⊢
       clear hW
       generalize w6.heap.size = g7 at E ⊢
       go_wp2_with fail
       refine (plain14 (OK.out E.out.bel) (RD.out E.out.bel) E.out.bel.size FL.out).mono ?_; rw [HPL.out]; rintro e w8 ⟨rfl, hb⟩
       replace E := Lib.hid (E.out.step hb); clear hb
       obtain ⟨q0, q1, q2, q3, q4, q5, q6⟩ := S14.c7 (g := g) E (List.mem_cons_of_mem _ List.mem_cons_self)
       obtain ⟨r0, r1, r2, r3, r4, r5, r6⟩ := S14.c7 (g := g7) E List.mem_cons_self
       go_wp2_with fail
       clear q0 r0 q1 r1 q2 r2 q3 r3 q4 r4 q5 r5 q6 r6
       refine (SP (v := ⟨vh, vt, vb, vi, vk, vs⟩) (v' := ⟨vh, vt, vb, vi, vk, vs⟩) (S14.got E (A := A2) (n := n2) (c := c2) (a := vi.natAbs) (by simp)) (S14.got E (A := A6) (n := n6) (c := c6) (a := vi.natAbs) (by simp)) (OK.out E.out.bel) (sameP_refl _)).mono ?_; rintro e w9 ⟨rfl, hb⟩
       replace E := Lib.hid (E.out.step hb); clear hb
       go_wp2_with fail
       go_meet
       case rel => exact E.out.bel
      | false =>
       have HPL : Hid (plnB L = false) := hpl
       clear hpl
       obtain ⟨⟨⟨xh, xt, xb, xi, xk, xs⟩, p6, e6⟩, hx⟩ : ∃ x, resP (prc ((tks 1 (wdsOf (bs9 T))).map tok) 0) = x := ⟨_, rfl⟩
       have HB := Lib.hid hx
       clear hx
       refine (RP R5.out (Nat.le_refl _) hn5 (siz_weight HF.out) (OK.out E.out.bel) HB.out).mono ?_; rintro e w6 ⟨A6, n6, c6, rfl, hn6, hb⟩
       replace E := Lib.hid (E.out.push hb hn6); clear hb hn6
       go_upto_region 19 with fail
       replace E := Lib.hid (E.out.lay #[.bool xh, .bool xt, .bool xb, .bool (ngB xi), .slice A6 n6 c6, .int .i64 (xk : Int), .string xs] 46 rfl)
       generalize hW : World.alloc w6 _ = W7 at E ⊢
       clear hW
       generalize w6.heap.size = g7 at E ⊢
       go_wp2_with fail
       refine (plain14 (OK.out E.out.bel) (RD.out E.out.bel) E.out.bel.size FL.out).mono ?_; rw [HPL.out]; rintro e w8 ⟨rfl, hb⟩
       replace E := Lib.hid (E.out.step hb); clear hb
       go_wp2_with fail
       go_meet
       case rel => exact E.out.bel
     ·have d : ((e2 : Int) == 0) = false := by rw [beq_eq_false_iff_ne]; omega
      go_wp2_with fail
      go_meet
      case rel => exact E.out.bel
    case rest =>
     clear E
     have E := Lib.hid (S14.bare hcut)
     clear hcut
     go_wp2_with fail
     refine (AW _ (OK.out E.out.bel)).mono ?_; rintro e w2 ⟨rfl, hb⟩
     replace E := Lib.hid (E.out.step hb); clear hb
     go_wp2_with fail
     go_ret
     exact ⟨rfl, E.out.bel⟩
theorem aw_n0 : (tks 1 (wdsOf (bs9 ⟨#[50, 32, 42, 32, 51, 32, 85, 83, 68]⟩))).length = 4 := by kernel_rfl
theorem aw_s0 : ((tks 1 (wdsOf (bs9 ⟨#[50, 32, 42, 32, 51, 32, 85, 83, 68]⟩))).map tok).all (fun t => decide (t.2.size ≤ 30)) = true := by kernel_rfl
theorem aw_r0 : resA (amt ((tks 1 (wdsOf (bs9 ⟨#[50, 32, 42, 32, 51, 32, 85, 83, 68]⟩))).map tok) 0) = (⟨6, 0, ⟨#[85, 83, 68]⟩⟩, 4, 0) := by kernel_rfl
theorem aw_n1 : (tks 1 (wdsOf (bs9 ⟨#[85, 83, 68]⟩))).length = 1 := by kernel_rfl
theorem aw_s1 : ((tks 1 (wdsOf (bs9 ⟨#[85, 83, 68]⟩))).map tok).all (fun t => decide (t.2.size ≤ 30)) = true := by kernel_rfl
theorem aw_r1 : resU (unt ((tks 1 (wdsOf (bs9 ⟨#[85, 83, 68]⟩))).map tok) 0) = (⟨false, 0, 0, ⟨#[85, 83, 68]⟩⟩, 1, 0) := by kernel_rfl
theorem aw_n2 : (tks 1 (wdsOf (bs9 ⟨#[123, 123, 49, 48, 48, 46, 48, 32, 85, 83, 68, 44, 32, 50, 48, 50, 52, 45, 48, 49, 45, 48, 50, 44, 32, 34, 97, 34, 125, 125, 32, 120]⟩))).length = 9 := by kernel_rfl
theorem aw_s2 : ((tks 1 (wdsOf (bs9 ⟨#[123, 123, 49, 48, 48, 46, 48, 32, 85, 83, 68, 44, 32, 50, 48, 50, 52, 45, 48, 49, 45, 48, 50, 44, 32, 34, 97, 34, 125, 125, 32, 120]⟩))).map tok).all (fun t => decide (t.2.size ≤ 30)) = true := by kernel_rfl
theorem aw_r2 : resC (cst ((tks 1 (wdsOf (bs9 ⟨#[123, 123, 49, 48, 48, 46, 48, 32, 85, 83, 68, 44, 32, 50, 48, 50, 52, 45, 48, 49, 45, 48, 50, 44, 32, 34, 97, 34, 125, 125, 32, 120]⟩))).map tok) 0) = (⟨true, true, true, 1000, 1, ⟨#[85, 83, 68]⟩, 2024, 1, 2, ⟨#[97]⟩⟩, 8, 0) := by kernel_rfl
theorem aw_n3 : (tks 1 (wdsOf (bs9 ⟨#[64, 64, 32, 53, 32, 69, 85, 82]⟩))).length = 3 := by kernel_rfl
theorem aw_s3 : ((tks 1 (wdsOf (bs9 ⟨#[64, 64, 32, 53, 32, 69, 85, 82]⟩))).map tok).all (fun t => decide (t.2.size ≤ 30)) = true := by kernel_rfl
theorem aw_r3 : resP (prc ((tks 1 (wdsOf (bs9 ⟨#[64, 64, 32, 53, 32, 69, 85, 82]⟩))).map tok) 0) = (⟨true, true, true, 5, 0, ⟨#[69, 85, 82]⟩⟩, 3, 0) := by kernel_rfl
theorem aw_n4 : (tks 1 (wdsOf (bs9 ⟨#[123]⟩))).length = 1 := by kernel_rfl
theorem aw_s4 : ((tks 1 (wdsOf (bs9 ⟨#[123]⟩))).map tok).all (fun t => decide (t.2.size ≤ 30)) = true := by kernel_rfl
theorem aw_r4 : resU (unt ((tks 1 (wdsOf (bs9 ⟨#[123]⟩))).map tok) 0) = (⟨false, 0, 0, ⟨#[]⟩⟩, 0, 0) := by kernel_rfl
theorem aw_n5 : (tks 1 (wdsOf (bs9 ⟨#[123, 49, 32, 85, 83, 68, 44, 32, 69, 85, 82, 125]⟩))).length = 6 := by kernel_rfl
theorem aw_s5 : ((tks 1 (wdsOf (bs9 ⟨#[123, 49, 32, 85, 83, 68, 44, 32, 69, 85, 82, 125]⟩))).map tok).all (fun t => decide (t.2.size ≤ 30)) = true := by kernel_rfl
theorem aw_r5 : resC (cst ((tks 1 (wdsOf (bs9 ⟨#[123, 49, 32, 85, 83, 68, 44, 32, 69, 85, 82, 125]⟩))).map tok) 0) = (⟨false, false, false, 0, 0, ⟨#[]⟩, 0, 0, 0, ⟨#[]⟩⟩, 4, 3) := by kernel_rfl
theorem aw_n6 : (tks 1 (wdsOf (bs9 ⟨#[123, 49, 32, 85, 83, 68]⟩))).length = 3 := by kernel_rfl
theorem aw_s6 : ((tks 1 (wdsOf (bs9 ⟨#[123, 49, 32, 85, 83, 68]⟩))).map tok).all (fun t => decide (t.2.size ≤ 30)) = true := by kernel_rfl
theorem aw_r6 : resC (cst ((tks 1 (wdsOf (bs9 ⟨#[123, 49, 32, 85, 83, 68]⟩))).map tok) 0) = (⟨false, false, false, 0, 0, ⟨#[]⟩, 0, 0, 0, ⟨#[]⟩⟩, 3, 2) := by kernel_rfl
theorem dg_small {a : Nat} (h : a < 10 ^ 18) : (dg a).length ≤ 900 := Nat.le_trans (len_nine h) (by decide)
theorem eq_lit {s : ByteArray} {l : List UInt8} (h : bs9 s = l.map UInt8.toNat) : (s.toList == l) = true := by
 have e : s = ⟨l.toArray⟩ := bs9_inj (by rw [h]; rfl)
 rw [e, ByteArray.toList_eq, beq_iff_eq]
theorem awake14 (RA : READA) (TA : TEXTA) (RU : READU) (TU : TEXTU) (SU : SAMEU) (RC : READC) (TC : TEXTC) (SC : SAMEC) (RP : READP) (TP : TEXTP) (SP : SAMEP) : AWK14 := fun w hok => by
 have OK : Hid (∀ {W : World}, Below w.heap.size w W → Ok12 W) := fun hb => okw12 hok hb
 have E := Lib.hid (S14.start w)
 clear hok
 go_enter Tryz.func5, Tryz.ntmps5
 go_wp2_with fail
 refine (words14 (s := ⟨#[50, 32, 42, 32, 51, 32, 85, 83, 68]⟩) (OK.out E.out.bel) (by decide)).mono ?_; rintro e wa0 ⟨B0, m0, d0, rfl, hr, hb⟩
 replace E := Lib.hid (E.out.step hb)
 have R := Lib.hid hr
 have hm : m0 ≤ 400 := by have := hr.len; rw [aw_n0] at this; omega
 have SZ : Hid (Siz _ _) := siz_many (fun t ht => of_decide_eq_true (List.all_eq_true.1 aw_s0 t ht)) (by rw [List.length_map, aw_n0]; decide)
 clear hr hb
 go_wp2_with fail
 obtain ⟨i0, k0, s0, g0, gg0⟩ : ∃ (i0 : Int) (k0 : Nat) (s0 : ByteArray), resA (amt ((tks 1 (wdsOf (bs9 ⟨#[50, 32, 42, 32, 51, 32, 85, 83, 68]⟩))).map tok) 0) = (⟨i0, k0, s0⟩, 4, 0) ∧ (i0 = 6 ∧ k0 = 0 ∧ bs9 s0 = [85, 83, 68]) := ⟨6, 0, ⟨#[85, 83, 68]⟩, aw_r0, rfl, rfl, rfl⟩
 have G0 := Lib.hid gg0
 refine (RA R.out (Nat.le_refl _) hm SZ.out (OK.out E.out.bel) g0).mono ?_; rintro e w0 ⟨A0, n0, c0, rfl, hn, hb⟩
 replace E := Lib.hid (E.out.push hb hn)
 clear hn hb g0 gg0 R hm SZ
 go_upto_region 2 with fail
 replace E := Lib.hid (E.out.lay #[.bool (ngB i0), .slice A0 n0 c0, .int .i64 (k0 : Int), .string s0] 56 rfl)
 generalize hW : World.alloc w0 _ = V0 at E ⊢
 clear hW
 generalize w0.heap.size = g0 at E ⊢
 go_wp2_with fail
 refine (words14 (s := ⟨#[85, 83, 68]⟩) (OK.out E.out.bel) (by decide)).mono ?_; rintro e wa1 ⟨B1, m1, d1, rfl, hr, hb⟩
 replace E := Lib.hid (E.out.step hb)
 have R := Lib.hid hr
 have hm : m1 ≤ 400 := by have := hr.len; rw [aw_n1] at this; omega
 have SZ : Hid (Siz _ _) := siz_many (fun t ht => of_decide_eq_true (List.all_eq_true.1 aw_s1 t ht)) (by rw [List.length_map, aw_n1]; decide)
 clear hr hb
 go_wp2_with fail
 obtain ⟨i1, k1, s1, g1, gg1⟩ : ∃ (i1 : Int) (k1 : Nat) (s1 : ByteArray), resU (unt ((tks 1 (wdsOf (bs9 ⟨#[85, 83, 68]⟩))).map tok) 0) = (⟨false, i1, k1, s1⟩, 1, 0) ∧ (i1 = 0 ∧ k1 = 0 ∧ bs9 s1 = [85, 83, 68]) := ⟨0, 0, ⟨#[85, 83, 68]⟩, aw_r1, rfl, rfl, rfl⟩
 have G1 := Lib.hid gg1
 refine (RU R.out (Nat.le_refl _) hm SZ.out (OK.out E.out.bel) g1).mono ?_; rintro e w1 ⟨A1, n1, c1, rfl, hn, hb⟩
 replace E := Lib.hid (E.out.push hb hn)
 clear hn hb g1 gg1 R hm SZ
 go_upto_region 3 with fail
 replace E := Lib.hid (E.out.lay #[.bool false, .bool (ngB i1), .slice A1 n1 c1, .int .i64 (k1 : Int), .string s1] 30 rfl)
 generalize hW : World.alloc w1 _ = V1 at E ⊢
 clear hW
 generalize w1.heap.size = g1 at E ⊢
 go_wp2_with fail
 refine (words14 (s := ⟨#[123, 123, 49, 48, 48, 46, 48, 32, 85, 83, 68, 44, 32, 50, 48, 50, 52, 45, 48, 49, 45, 48, 50, 44, 32, 34, 97, 34, 125, 125, 32, 120]⟩) (OK.out E.out.bel) (by decide)).mono ?_; rintro e wa2 ⟨B2, m2, d2, rfl, hr, hb⟩
 replace E := Lib.hid (E.out.step hb)
 have R := Lib.hid hr
 have hm : m2 ≤ 400 := by have := hr.len; rw [aw_n2] at this; omega
 have SZ : Hid (Siz _ _) := siz_many (fun t ht => of_decide_eq_true (List.all_eq_true.1 aw_s2 t ht)) (by rw [List.length_map, aw_n2]; decide)
 clear hr hb
 go_wp2_with fail
 obtain ⟨i2, k2, s2, i2a, i2b, i2c, s2a, g2, gg2⟩ : ∃ (i2 : Int) (k2 : Nat) (s2 : ByteArray) (i2a : Int) (i2b : Int) (i2c : Int) (s2a : ByteArray), resC (cst ((tks 1 (wdsOf (bs9 ⟨#[123, 123, 49, 48, 48, 46, 48, 32, 85, 83, 68, 44, 32, 50, 48, 50, 52, 45, 48, 49, 45, 48, 50, 44, 32, 34, 97, 34, 125, 125, 32, 120]⟩))).map tok) 0) = (⟨true, true, true, i2, k2, s2, i2a, i2b, i2c, s2a⟩, 8, 0) ∧ (i2 = 1000 ∧ k2 = 1 ∧ bs9 s2 = [85, 83, 68] ∧ i2a = 2024 ∧ i2b = 1 ∧ i2c = 2 ∧ bs9 s2a = [97]) := ⟨1000, 1, ⟨#[85, 83, 68]⟩, 2024, 1, 2, ⟨#[97]⟩, aw_r2, rfl, rfl, rfl, rfl, rfl, rfl, rfl⟩
 have G2 := Lib.hid gg2
 refine (RC R.out (Nat.le_refl _) hm SZ.out (OK.out E.out.bel) g2).mono ?_; rintro e w2 ⟨A2, n2, c2, rfl, hn, hb⟩
 replace E := Lib.hid (E.out.push hb hn)
 clear hn hb g2 gg2 R hm SZ
 go_upto_region 4 with fail
 replace E := Lib.hid (E.out.lay #[.bool true, .bool true, .bool true, .bool (ngB i2), .slice A2 n2 c2, .int .i64 (k2 : Int), .string s2, .int .i64 i2a, .int .i64 i2b, .int .i64 i2c, .string s2a] 40 rfl)
 generalize hW : World.alloc w2 _ = V2 at E ⊢
 clear hW
 generalize w2.heap.size = g2 at E ⊢
 go_wp2_with fail
 refine (words14 (s := ⟨#[64, 64, 32, 53, 32, 69, 85, 82]⟩) (OK.out E.out.bel) (by decide)).mono ?_; rintro e wa3 ⟨B3, m3, d3, rfl, hr, hb⟩
 replace E := Lib.hid (E.out.step hb)
 have R := Lib.hid hr
 have hm : m3 ≤ 400 := by have := hr.len; rw [aw_n3] at this; omega
 have SZ : Hid (Siz _ _) := siz_many (fun t ht => of_decide_eq_true (List.all_eq_true.1 aw_s3 t ht)) (by rw [List.length_map, aw_n3]; decide)
 clear hr hb
 go_wp2_with fail
 obtain ⟨i3, k3, s3, g3, gg3⟩ : ∃ (i3 : Int) (k3 : Nat) (s3 : ByteArray), resP (prc ((tks 1 (wdsOf (bs9 ⟨#[64, 64, 32, 53, 32, 69, 85, 82]⟩))).map tok) 0) = (⟨true, true, true, i3, k3, s3⟩, 3, 0) ∧ (i3 = 5 ∧ k3 = 0 ∧ bs9 s3 = [69, 85, 82]) := ⟨5, 0, ⟨#[69, 85, 82]⟩, aw_r3, rfl, rfl, rfl⟩
 have G3 := Lib.hid gg3
 refine (RP R.out (Nat.le_refl _) hm SZ.out (OK.out E.out.bel) g3).mono ?_; rintro e w3 ⟨A3, n3, c3, rfl, hn, hb⟩
 replace E := Lib.hid (E.out.push hb hn)
 clear hn hb g3 gg3 R hm SZ
 go_upto_region 5 with fail
 replace E := Lib.hid (E.out.lay #[.bool true, .bool true, .bool true, .bool (ngB i3), .slice A3 n3 c3, .int .i64 (k3 : Int), .string s3] 46 rfl)
 generalize hW : World.alloc w3 _ = V3 at E ⊢
 clear hW
 generalize w3.heap.size = g3 at E ⊢
 go_wp2_with fail
 refine (words14 (s := ⟨#[123]⟩) (OK.out E.out.bel) (by decide)).mono ?_; rintro e wa4 ⟨B4, m4, d4, rfl, hr, hb⟩
 replace E := Lib.hid (E.out.step hb)
 have R := Lib.hid hr
 have hm : m4 ≤ 400 := by have := hr.len; rw [aw_n4] at this; omega
 have SZ : Hid (Siz _ _) := siz_many (fun t ht => of_decide_eq_true (List.all_eq_true.1 aw_s4 t ht)) (by rw [List.length_map, aw_n4]; decide)
 clear hr hb
 go_wp2_with fail
 obtain ⟨i4, k4, s4, g4, gg4⟩ : ∃ (i4 : Int) (k4 : Nat) (s4 : ByteArray), resU (unt ((tks 1 (wdsOf (bs9 ⟨#[123]⟩))).map tok) 0) = (⟨false, i4, k4, s4⟩, 0, 0) ∧ (i4 = 0 ∧ k4 = 0 ∧ bs9 s4 = []) := ⟨0, 0, ⟨#[]⟩, aw_r4, rfl, rfl, rfl⟩
 have G4 := Lib.hid gg4
 refine (RU R.out (Nat.le_refl _) hm SZ.out (OK.out E.out.bel) g4).mono ?_; rintro e w4 ⟨A4, n4, c4, rfl, hn, hb⟩
 replace E := Lib.hid (E.out.push hb hn)
 clear hn hb g4 gg4 R hm SZ
 go_upto_region 6 with fail
 replace E := Lib.hid (E.out.lay #[.bool false, .bool (ngB i4), .slice A4 n4 c4, .int .i64 (k4 : Int), .string s4] 30 rfl)
 generalize hW : World.alloc w4 _ = V4 at E ⊢
 clear hW
 generalize w4.heap.size = g4 at E ⊢
 go_wp2_with fail
 refine (words14 (s := ⟨#[123, 49, 32, 85, 83, 68, 44, 32, 69, 85, 82, 125]⟩) (OK.out E.out.bel) (by decide)).mono ?_; rintro e wa5 ⟨B5, m5, d5, rfl, hr, hb⟩
 replace E := Lib.hid (E.out.step hb)
 have R := Lib.hid hr
 have hm : m5 ≤ 400 := by have := hr.len; rw [aw_n5] at this; omega
 have SZ : Hid (Siz _ _) := siz_many (fun t ht => of_decide_eq_true (List.all_eq_true.1 aw_s5 t ht)) (by rw [List.length_map, aw_n5]; decide)
 clear hr hb
 go_wp2_with fail
 obtain ⟨i5, k5, s5, i5a, i5b, i5c, s5a, g5, gg5⟩ : ∃ (i5 : Int) (k5 : Nat) (s5 : ByteArray) (i5a : Int) (i5b : Int) (i5c : Int) (s5a : ByteArray), resC (cst ((tks 1 (wdsOf (bs9 ⟨#[123, 49, 32, 85, 83, 68, 44, 32, 69, 85, 82, 125]⟩))).map tok) 0) = (⟨false, false, false, i5, k5, s5, i5a, i5b, i5c, s5a⟩, 4, 3) ∧ (i5 = 0 ∧ k5 = 0 ∧ bs9 s5 = [] ∧ i5a = 0 ∧ i5b = 0 ∧ i5c = 0 ∧ bs9 s5a = []) := ⟨0, 0, ⟨#[]⟩, 0, 0, 0, ⟨#[]⟩, aw_r5, rfl, rfl, rfl, rfl, rfl, rfl, rfl⟩
 have G5 := Lib.hid gg5
 refine (RC R.out (Nat.le_refl _) hm SZ.out (OK.out E.out.bel) g5).mono ?_; rintro e w5 ⟨A5, n5, c5, rfl, hn, hb⟩
 replace E := Lib.hid (E.out.push hb hn)
 clear hn hb g5 gg5 R hm SZ
 go_upto_region 7 with fail
 replace E := Lib.hid (E.out.lay #[.bool false, .bool false, .bool false, .bool (ngB i5), .slice A5 n5 c5, .int .i64 (k5 : Int), .string s5, .int .i64 i5a, .int .i64 i5b, .int .i64 i5c, .string s5a] 40 rfl)
 generalize hW : World.alloc w5 _ = V5 at E ⊢
 clear hW
 generalize w5.heap.size = g5 at E ⊢
 go_wp2_with fail
 refine (words14 (s := ⟨#[123, 49, 32, 85, 83, 68]⟩) (OK.out E.out.bel) (by decide)).mono ?_; rintro e wa6 ⟨B6, m6, d6, rfl, hr, hb⟩
 replace E := Lib.hid (E.out.step hb)
 have R := Lib.hid hr
 have hm : m6 ≤ 400 := by have := hr.len; rw [aw_n6] at this; omega
 have SZ : Hid (Siz _ _) := siz_many (fun t ht => of_decide_eq_true (List.all_eq_true.1 aw_s6 t ht)) (by rw [List.length_map, aw_n6]; decide)
 clear hr hb
 go_wp2_with fail
 obtain ⟨i6, k6, s6, i6a, i6b, i6c, s6a, g6, gg6⟩ : ∃ (i6 : Int) (k6 : Nat) (s6 : ByteArray) (i6a : Int) (i6b : Int) (i6c : Int) (s6a : ByteArray), resC (cst ((tks 1 (wdsOf (bs9 ⟨#[123, 49, 32, 85, 83, 68]⟩))).map tok) 0) = (⟨false, false, false, i6, k6, s6, i6a, i6b, i6c, s6a⟩, 3, 2) ∧ (i6 = 0 ∧ k6 = 0 ∧ bs9 s6 = [] ∧ i6a = 0 ∧ i6b = 0 ∧ i6c = 0 ∧ bs9 s6a = []) := ⟨0, 0, ⟨#[]⟩, 0, 0, 0, ⟨#[]⟩, aw_r6, rfl, rfl, rfl, rfl, rfl, rfl, rfl⟩
 have G6 := Lib.hid gg6
 refine (RC R.out (Nat.le_refl _) hm SZ.out (OK.out E.out.bel) g6).mono ?_; rintro e w6 ⟨A6, n6, c6, rfl, hn, hb⟩
 replace E := Lib.hid (E.out.push hb hn)
 clear hn hb g6 gg6 R hm SZ
 go_upto_region 8 with fail
 replace E := Lib.hid (E.out.lay #[.bool false, .bool false, .bool false, .bool (ngB i6), .slice A6 n6 c6, .int .i64 (k6 : Int), .string s6, .int .i64 i6a, .int .i64 i6b, .int .i64 i6c, .string s6a] 40 rfl)
 generalize hW : World.alloc w6 _ = V6 at E ⊢
 clear hW
 generalize w6.heap.size = g6 at E ⊢
 obtain ⟨T0, hT, hD0⟩ : ∃ T : ByteArray, txtA ⟨i0, k0, s0⟩ = bs9 T ∧ (T.toList == [54, 32, 85, 83, 68]) = true := ⟨⟨#[54, 32, 85, 83, 68]⟩, by obtain ⟨rfl, rfl, y2⟩ := G0.out; obtain rfl : s0 = ⟨#[85, 83, 68]⟩ := bs9_inj y2; kernel_rfl, eq_lit rfl⟩
 have HT0 := Lib.hid hT
 clear hT
 have sz0 : n0 ≤ 900 ∧ k0 ≤ 4010 ∧ s0.size ≤ 30 := by
  have h1 := (S14.got E (A := A0) (n := n0) (c := c0) (a := i0.natAbs) (List.mem_cons_of_mem _ (List.mem_cons_of_mem _ (List.mem_cons_of_mem _ (List.mem_cons_of_mem _ (List.mem_cons_of_mem _ (List.mem_cons_of_mem _ List.mem_cons_self))))))).len
  obtain ⟨rfl, rfl, y2⟩ := G0.out
  obtain rfl : s0 = ⟨#[85, 83, 68]⟩ := bs9_inj y2; exact ⟨by rw [← h1]; exact dg_small (by decide), by decide, by decide⟩
 obtain ⟨q0_0, q0_1, q0_2, q0_3⟩ := S14.c4 (g := g0) E (List.mem_cons_of_mem _ (List.mem_cons_of_mem _ (List.mem_cons_of_mem _ (List.mem_cons_of_mem _ (List.mem_cons_of_mem _ (List.mem_cons_of_mem _ List.mem_cons_self))))))
 go_wp2_with fail
 clear q0_0 q0_1 q0_2 q0_3
 refine (TA (v := ⟨i0, k0, s0⟩) (S14.got E (A := A0) (n := n0) (c := c0) (a := i0.natAbs) (List.mem_cons_of_mem _ (List.mem_cons_of_mem _ (List.mem_cons_of_mem _ (List.mem_cons_of_mem _ (List.mem_cons_of_mem _ (List.mem_cons_of_mem _ List.mem_cons_self))))))) sz0.1 sz0.2.1 sz0.2.2 (OK.out E.out.bel) HT0.out).mono ?_; rintro e x1 ⟨rfl, hb⟩
 replace E := Lib.hid (E.out.step hb); clear hb
 have ds1 : (s1.toList == [85, 83, 68]) = true := by obtain ⟨-, -, y⟩ := G1.out; exact eq_lit y
 obtain ⟨T2, hT, hD2⟩ : ∃ T : ByteArray, txtC ⟨true, true, true, i2, k2, s2, i2a, i2b, i2c, s2a⟩ = bs9 T ∧ (T.toList == [123, 123, 49, 48, 48, 46, 48, 32, 85, 83, 68, 44, 32, 50, 48, 50, 52, 45, 48, 49, 45, 48, 50, 44, 32, 34, 97, 34, 125, 125]) = true := ⟨⟨#[123, 123, 49, 48, 48, 46, 48, 32, 85, 83, 68, 44, 32, 50, 48, 50, 52, 45, 48, 49, 45, 48, 50, 44, 32, 34, 97, 34, 125, 125]⟩, by obtain ⟨rfl, rfl, y2, rfl, rfl, rfl, y6⟩ := G2.out; obtain rfl : s2 = ⟨#[85, 83, 68]⟩ := bs9_inj y2; obtain rfl : s2a = ⟨#[97]⟩ := bs9_inj y6; kernel_rfl, eq_lit rfl⟩
 have HT2 := Lib.hid hT
 clear hT
 have sz2 : n2 ≤ 900 ∧ k2 ≤ 4010 ∧ s2.size ≤ 30 ∧ s2a.size ≤ 30 := by
  have h1 := (S14.got E (A := A2) (n := n2) (c := c2) (a := i2.natAbs) (List.mem_cons_of_mem _ (List.mem_cons_of_mem _ (List.mem_cons_of_mem _ (List.mem_cons_of_mem _ List.mem_cons_self))))).len
  obtain ⟨rfl, rfl, y2, rfl, rfl, rfl, y6⟩ := G2.out
  obtain rfl : s2 = ⟨#[85, 83, 68]⟩ := bs9_inj y2; obtain rfl : s2a = ⟨#[97]⟩ := bs9_inj y6; exact ⟨by rw [← h1]; exact dg_small (by decide), by decide, by decide, by decide⟩
 obtain ⟨q1_0, q1_1, q1_2, q1_3, q1_4⟩ := S14.c5 (g := g1) E (List.mem_cons_of_mem _ (List.mem_cons_of_mem _ (List.mem_cons_of_mem _ (List.mem_cons_of_mem _ (List.mem_cons_of_mem _ List.mem_cons_self)))))
 obtain ⟨q2_0, q2_1, q2_2, q2_3, q2_4, q2_5, q2_6, q2_7, q2_8, q2_9, q2_10⟩ := S14.c11 (g := g2) E (List.mem_cons_of_mem _ (List.mem_cons_of_mem _ (List.mem_cons_of_mem _ (List.mem_cons_of_mem _ List.mem_cons_self))))
 go_wp2_with fail
 clear q1_0 q1_1 q1_2 q1_3 q1_4 q2_0 q2_1 q2_2 q2_3 q2_4 q2_5 q2_6 q2_7 q2_8 q2_9 q2_10
 refine (TC (v := ⟨true, true, true, i2, k2, s2, i2a, i2b, i2c, s2a⟩) (S14.got E (A := A2) (n := n2) (c := c2) (a := i2.natAbs) (List.mem_cons_of_mem _ (List.mem_cons_of_mem _ (List.mem_cons_of_mem _ (List.mem_cons_of_mem _ List.mem_cons_self))))) sz2.1 sz2.2.1 sz2.2.2.1 sz2.2.2.2 (OK.out E.out.bel) HT2.out).mono ?_; rintro e x2 ⟨rfl, hb⟩
 replace E := Lib.hid (E.out.step hb); clear hb
 obtain ⟨T3, hT, hD3⟩ : ∃ T : ByteArray, txtP ⟨true, true, true, i3, k3, s3⟩ = bs9 T ∧ (T.toList == [64, 64, 32, 53, 32, 69, 85, 82]) = true := ⟨⟨#[64, 64, 32, 53, 32, 69, 85, 82]⟩, by obtain ⟨rfl, rfl, y2⟩ := G3.out; obtain rfl : s3 = ⟨#[69, 85, 82]⟩ := bs9_inj y2; kernel_rfl, eq_lit rfl⟩
 have HT3 := Lib.hid hT
 clear hT
 have sz3 : n3 ≤ 900 ∧ k3 ≤ 4010 ∧ s3.size ≤ 30 := by
  have h1 := (S14.got E (A := A3) (n := n3) (c := c3) (a := i3.natAbs) (List.mem_cons_of_mem _ (List.mem_cons_of_mem _ (List.mem_cons_of_mem _ List.mem_cons_self)))).len
  obtain ⟨rfl, rfl, y2⟩ := G3.out
  obtain rfl : s3 = ⟨#[69, 85, 82]⟩ := bs9_inj y2; exact ⟨by rw [← h1]; exact dg_small (by decide), by decide, by decide⟩
 obtain ⟨q3_0, q3_1, q3_2, q3_3, q3_4, q3_5, q3_6⟩ := S14.c7 (g := g3) E (List.mem_cons_of_mem _ (List.mem_cons_of_mem _ (List.mem_cons_of_mem _ List.mem_cons_self)))
 go_wp2_with fail
 clear q3_0 q3_1 q3_2 q3_3 q3_4 q3_5 q3_6
 refine (TP (v := ⟨true, true, true, i3, k3, s3⟩) (S14.got E (A := A3) (n := n3) (c := c3) (a := i3.natAbs) (List.mem_cons_of_mem _ (List.mem_cons_of_mem _ (List.mem_cons_of_mem _ List.mem_cons_self)))) sz3.1 sz3.2.1 sz3.2.2 (OK.out E.out.bel) HT3.out).mono ?_; rintro e x3 ⟨rfl, hb⟩
 replace E := Lib.hid (E.out.step hb); clear hb
 obtain ⟨q4_0, q4_1, q4_2, q4_3, q4_4⟩ := S14.c5 (g := g4) E (List.mem_cons_of_mem _ (List.mem_cons_of_mem _ List.mem_cons_self))
 go_wp2_with fail
 clear q4_0 q4_1 q4_2 q4_3 q4_4
 refine (SU (v := ⟨false, i4, k4, s4⟩) (v' := ⟨false, 0, 0, ⟨#[]⟩⟩) (S14.got E (A := A4) (n := n4) (c := c4) (a := i4.natAbs) (List.mem_cons_of_mem _ (List.mem_cons_of_mem _ List.mem_cons_self))) (num_zero _ _) (OK.out E.out.bel) (by obtain ⟨rfl, rfl, y⟩ := G4.out; obtain rfl : s4 = ⟨#[]⟩ := bs9_inj y; rfl)).mono ?_; rintro e x4 ⟨rfl, hb⟩
 replace E := Lib.hid (E.out.step hb); clear hb
 obtain ⟨T1, hT, hD1⟩ : ∃ T : ByteArray, txtU ⟨false, i1, k1, s1⟩ = bs9 T ∧ (T.toList == [85, 83, 68]) = true := ⟨⟨#[85, 83, 68]⟩, by obtain ⟨rfl, rfl, y2⟩ := G1.out; obtain rfl : s1 = ⟨#[85, 83, 68]⟩ := bs9_inj y2; kernel_rfl, eq_lit rfl⟩
 have HT1 := Lib.hid hT
 clear hT
 have sz1 : n1 ≤ 900 ∧ k1 ≤ 4010 ∧ s1.size ≤ 30 := by
  have h1 := (S14.got E (A := A1) (n := n1) (c := c1) (a := i1.natAbs) (List.mem_cons_of_mem _ (List.mem_cons_of_mem _ (List.mem_cons_of_mem _ (List.mem_cons_of_mem _ (List.mem_cons_of_mem _ List.mem_cons_self)))))).len
  obtain ⟨rfl, rfl, y2⟩ := G1.out
  obtain rfl : s1 = ⟨#[85, 83, 68]⟩ := bs9_inj y2; exact ⟨by rw [← h1]; exact dg_small (by decide), by decide, by decide⟩
 obtain ⟨q1_0, q1_1, q1_2, q1_3, q1_4⟩ := S14.c5 (g := g1) E (List.mem_cons_of_mem _ (List.mem_cons_of_mem _ (List.mem_cons_of_mem _ (List.mem_cons_of_mem _ (List.mem_cons_of_mem _ List.mem_cons_self)))))
 go_wp2_with fail
 clear q1_0 q1_1 q1_2 q1_3 q1_4
 refine (TU (v := ⟨false, i1, k1, s1⟩) (S14.got E (A := A1) (n := n1) (c := c1) (a := i1.natAbs) (List.mem_cons_of_mem _ (List.mem_cons_of_mem _ (List.mem_cons_of_mem _ (List.mem_cons_of_mem _ (List.mem_cons_of_mem _ List.mem_cons_self)))))) sz1.1 sz1.2.1 sz1.2.2 (OK.out E.out.bel) HT1.out).mono ?_; rintro e x5 ⟨rfl, hb⟩
 replace E := Lib.hid (E.out.step hb); clear hb
 obtain ⟨q2_0, q2_1, q2_2, q2_3, q2_4, q2_5, q2_6, q2_7, q2_8, q2_9, q2_10⟩ := S14.c11 (g := g2) E (List.mem_cons_of_mem _ (List.mem_cons_of_mem _ (List.mem_cons_of_mem _ (List.mem_cons_of_mem _ List.mem_cons_self))))
 go_wp2_with fail
 clear q2_0 q2_1 q2_2 q2_3 q2_4 q2_5 q2_6 q2_7 q2_8 q2_9 q2_10
 refine (SC (v := ⟨true, true, true, i2, k2, s2, i2a, i2b, i2c, s2a⟩) (v' := ⟨true, true, true, i2, k2, s2, i2a, i2b, i2c, s2a⟩) (S14.got E (A := A2) (n := n2) (c := c2) (a := i2.natAbs) (List.mem_cons_of_mem _ (List.mem_cons_of_mem _ (List.mem_cons_of_mem _ (List.mem_cons_of_mem _ List.mem_cons_self))))) (S14.got E (A := A2) (n := n2) (c := c2) (a := i2.natAbs) (List.mem_cons_of_mem _ (List.mem_cons_of_mem _ (List.mem_cons_of_mem _ (List.mem_cons_of_mem _ List.mem_cons_self))))) (OK.out E.out.bel) (sameC_refl _)).mono ?_; rintro e x6 ⟨rfl, hb⟩
 replace E := Lib.hid (E.out.step hb); clear hb
 obtain ⟨q2_0, q2_1, q2_2, q2_3, q2_4, q2_5, q2_6, q2_7, q2_8, q2_9, q2_10⟩ := S14.c11 (g := g2) E (List.mem_cons_of_mem _ (List.mem_cons_of_mem _ (List.mem_cons_of_mem _ (List.mem_cons_of_mem _ List.mem_cons_self))))
 go_wp2_with fail
 clear q2_0 q2_1 q2_2 q2_3 q2_4 q2_5 q2_6 q2_7 q2_8 q2_9 q2_10
 refine (SC (v := ⟨true, true, true, i2, k2, s2, i2a, i2b, i2c, s2a⟩) (v' := ⟨false, false, false, 0, 0, ⟨#[]⟩, 0, 0, 0, ⟨#[]⟩⟩) (x := false) (S14.got E (A := A2) (n := n2) (c := c2) (a := i2.natAbs) (List.mem_cons_of_mem _ (List.mem_cons_of_mem _ (List.mem_cons_of_mem _ (List.mem_cons_of_mem _ List.mem_cons_self))))) (num_zero _ _) (OK.out E.out.bel) (decide_eq_false (fun h => Bool.noConfusion (show true = false from h.1)))).mono ?_; rintro e x7 ⟨rfl, hb⟩
 replace E := Lib.hid (E.out.step hb); clear hb
 obtain ⟨q3_0, q3_1, q3_2, q3_3, q3_4, q3_5, q3_6⟩ := S14.c7 (g := g3) E (List.mem_cons_of_mem _ (List.mem_cons_of_mem _ (List.mem_cons_of_mem _ List.mem_cons_self)))
 go_wp2_with fail
 clear q3_0 q3_1 q3_2 q3_3 q3_4 q3_5 q3_6
 refine (SP (v := ⟨true, true, true, i3, k3, s3⟩) (v' := ⟨true, true, true, i3, k3, s3⟩) (S14.got E (A := A3) (n := n3) (c := c3) (a := i3.natAbs) (List.mem_cons_of_mem _ (List.mem_cons_of_mem _ (List.mem_cons_of_mem _ List.mem_cons_self)))) (S14.got E (A := A3) (n := n3) (c := c3) (a := i3.natAbs) (List.mem_cons_of_mem _ (List.mem_cons_of_mem _ (List.mem_cons_of_mem _ List.mem_cons_self)))) (OK.out E.out.bel) (sameP_refl _)).mono ?_; rintro e x8 ⟨rfl, hb⟩
 replace E := Lib.hid (E.out.step hb); clear hb
 obtain ⟨q3_0, q3_1, q3_2, q3_3, q3_4, q3_5, q3_6⟩ := S14.c7 (g := g3) E (List.mem_cons_of_mem _ (List.mem_cons_of_mem _ (List.mem_cons_of_mem _ List.mem_cons_self)))
 go_wp2_with fail
 clear q3_0 q3_1 q3_2 q3_3 q3_4 q3_5 q3_6
 refine (SP (v := ⟨true, true, true, i3, k3, s3⟩) (v' := ⟨false, false, false, 0, 0, ⟨#[]⟩⟩) (x := false) (S14.got E (A := A3) (n := n3) (c := c3) (a := i3.natAbs) (List.mem_cons_of_mem _ (List.mem_cons_of_mem _ (List.mem_cons_of_mem _ List.mem_cons_self)))) (num_zero _ _) (OK.out E.out.bel) (decide_eq_false (fun h => Bool.noConfusion (show true = false from h.1)))).mono ?_; rintro e x9 ⟨rfl, hb⟩
 replace E := Lib.hid (E.out.step hb); clear hb
 go_wp2_with fail
 go_ret
 exact ⟨rfl, E.out.bel⟩
end Go.Proofs.YtjonoedomgacaaaGreatDoor.Num
