/-
  Rows of decimals of any size; the contracts of some.
-/
import Derived.Test.YtllcjahekckbfaaRouE
import Derived.Test.YtllcjahekckbfaaAllDecG
set_option linter.unusedVariables false
set_option linter.unusedSimpArgs false
namespace Go.Proofs.Ytllcjahekckbfaa
open Go.RowKit

/-- The slice at A of n decimals and capacity c reads as the decimals d, at the places p: each of at most L limbs and of a scale of at most S. -/
structure DecsG (L S : Nat) (w : World) (B : Nat) (A : Option Addr) (n c : Nat) (d : Nat → Int × Nat) (p : Nat → Option Addr × Nat × Nat) : Prop where
  cap : n ≤ c
  room : c ≤ maxLen
  row : n = 0 ∨ ∃ b o, A = some ⟨b, o, none⟩ ∧ b < B ∧ ∀ j, j < n → w.cell? ⟨b, o + j * 3, none⟩ = some (.bool (ngB (d j).1)) ∧ w.cell? ⟨b, o + j * 3 + 1, none⟩ = some (.slice (p j).1 (p j).2.1 (p j).2.2) ∧ w.cell? ⟨b, o + j * 3 + 2, none⟩ = some (.int .i64 ((d j).2 : Int))
  num : ∀ j, j < n → Num w B (p j).1 (p j).2.1 (p j).2.2 (d j).1.natAbs
  short : ∀ j, j < n → (dg (d j).1.natAbs).length ≤ L ∧ (d j).2 ≤ S
  addr : A = none → c = 0
section
variable {L S : Nat} {w w' : World} {B n c : Nat} {A : Option Addr} {d : Nat → Int × Nat} {p : Nat → Option Addr × Nat × Nat}
theorem DecsG.of (h : Decs w B A n c d p) : DecsG 12 60 w B A n c d p := ⟨h.cap, h.room, h.row, h.num, h.short, h.addr⟩
theorem DecsG.below (h : DecsG L S w B A n c d p) (hb : Below B w w') : DecsG L S w' B A n c d p := by
  refine ⟨h.cap, h.room, ?_, fun j hj => (h.num j hj).below hb, h.short, h.addr⟩
  rcases h.row with h0 | ⟨b, o, rfl, hB, hc⟩
  · exact .inl h0
  · exact .inr ⟨b, o, rfl, hB, fun j hj => ⟨(hb.cell (p := ⟨b, o + j * 3, none⟩) hB).trans (hc j hj).1, (hb.cell (p := ⟨b, o + j * 3 + 1, none⟩) hB).trans (hc j hj).2.1, (hb.cell (p := ⟨b, o + j * 3 + 2, none⟩) hB).trans (hc j hj).2.2⟩⟩
theorem DecsG.more {B' : Nat} (h : DecsG L S w B A n c d p) (hb : B ≤ B') : DecsG L S w B' A n c d p := by
  refine ⟨h.cap, h.room, ?_, fun j hj => (h.num j hj).more hb, h.short, h.addr⟩
  rcases h.row with h0 | ⟨b, o, hA, hB, hc⟩
  · exact .inl h0
  · exact .inr ⟨b, o, hA, Nat.lt_of_lt_of_le hB hb, hc⟩
theorem DecsG.on (h : DecsG L S w w.heap.size A n c d p) (hb : Below w.heap.size w w') : DecsG L S w' w'.heap.size A n c d p := (h.below hb).more hb.size
theorem DecsG.at_ {j : Nat} (h : DecsG L S w B A n c d p) (hj : j < n) :
    ∃ b o, A = some ⟨b, o, none⟩ ∧ b < B ∧ w.cell? ⟨b, o + j * 3, none⟩ = some (.bool (ngB (d j).1)) ∧ w.cell? ⟨b, o + j * 3 + 1, none⟩ = some (.slice (p j).1 (p j).2.1 (p j).2.2) ∧ w.cell? ⟨b, o + j * 3 + 2, none⟩ = some (.int .i64 ((d j).2 : Int)) := by
  rcases h.row with h0 | ⟨b, o, rfl, hB, hc⟩
  · omega
  · exact ⟨b, o, rfl, hB, (hc j hj).1, (hc j hj).2.1, (hc j hj).2.2⟩
end

/-- A method of signs tells this of a decimal. -/
def IsBy (kf : Nat) (q : Int → Bool) : Prop := ∀ (A : Option Addr) (n c s : Nat) (i : Int) (w : World), Num w w.heap.size A n c i.natAbs →
  Calls Try.prog 33 #[.agg #[.bool (ngB i), .slice A n c, .int .i64 (s : Int)], .func (.func kf) #[] #[]] w (RetVal w (.bool (q i)))
theorem by_below : IsBy 29 ngB := isBelow_any
theorem by_above : IsBy 30 (fun i => decide (0 < i)) := isAbove_any

set_option maxRecDepth 100000 in
theorem some1_any (kf : Nat) (q : Int → Bool) (his : Hid (IsBy kf q)) (A : Option Addr) (n c s g : Nat) (i : Int) (w : World) (h : Num w w.heap.size A n c i.natAbs) (hg : w.cell? ⟨g, 0, none⟩ = some (.func (.func kf) #[] #[])) (hgl : g < w.heap.size) :
    Calls Try.prog 47 #[.agg #[.bool (ngB i), .slice A n c, .int .i64 (s : Int)], .pointer (some ⟨g, 0, none⟩)] w (RetVal w (.bool (q i))) := by
  have H := Lib.hid h
  clear h
  go_enter Try.func47, Try.ntmps47
  go_wp2_with fail
  generalize hW : World.alloc w _ = W0
  have E0 : St w W0 [(A, n, c, i.natAbs)] [(w.heap.size, .bool (ngB i), .slice A n c, .int .i64 (s : Int))] := by rw [← hW]; exact (start_one H.out).lay rfl
  have E := Lib.hid E0
  have hg0 : W0.cell? ⟨g, 0, none⟩ = some (.func (.func kf) #[] #[]) := (E0.bel.cell (p := ⟨g, 0, none⟩) hgl).trans hg
  clear hW E0 hg
  obtain ⟨p0, p1, p2, pf0, pf1, pf2, plt⟩ := St.at_ (x0 := .bool (ngB i)) (x1 := .slice A n c) (x2 := .int .i64 (s : Int)) (g := w.heap.size) E (by simp)
  go_wp2_with fail
  refine (his.out A n c s i _ (St.got E (by simp))).mono ?_; rintro e w1 ⟨rfl, hb⟩; replace E := Lib.hid (St.step E.out hb); clear hb
  go_wp2_with fail
  go_ret
  exact ⟨rfl, E.out.bel⟩

set_option maxRecDepth 100000 in
set_option maxHeartbeats 4000000 in
theorem indexDec_any (kf : Nat) (q : Int → Bool) (his : Hid (IsBy kf q)) (L S : Nat) (A : Option Addr) (n c g : Nat) (d : Nat → Int × Nat) (p : Nat → Option Addr × Nat × Nat) (w : World) (h : DecsG L S w w.heap.size A n c d p) (hg : w.cell? ⟨g, 0, none⟩ = some (.func (.func kf) #[] #[])) (hgl : g < w.heap.size) :
    Calls Try.prog 63 #[.slice A n c, .func (.func 47) #[] #[.pointer (some ⟨g, 0, none⟩)]] w fun e w' => (∃ r : Int, e = .returned (.int .i64 r) ∧ (0 ≤ r ↔ ∃ j, j < n ∧ q (d j).1 = true)) ∧ Below w.heap.size w w' := by
  have hc := h.cap
  have hm := h.room
  unfold maxLen at hm
  have H := Lib.hid h
  clear h
  go_enter Try.func63, Try.ntmps63
  go_wp2_with fail
  go_loopw [8] (fun iv wr => ∃ k : Nat, k ≤ n ∧ iv = .int .i64 k ∧ Below w.heap.size w wr ∧ ∀ j, j < k → q (d j).1 = false) (fun iv _ => n - (intOf iv).toNat)
  case atStart => exact ⟨0, Nat.zero_le _, rfl, Below.refl _ _, fun j hj => absurd hj (by omega)⟩
  case round =>
    obtain ⟨k, hk, rfl, hbl, hall⟩ := hrel
    have HALL := Lib.hid hall
    have HB := Lib.hid hbl
    clear hall hbl
    rcases Nat.lt_or_ge k n with hlt | hge
    · have HD := Lib.hid (H.out.on HB.out)
      obtain ⟨b, o, rfl, hb, x0, x1, x2⟩ := HD.out.at_ hlt
      have HN := Lib.hid (HD.out.num k hlt)
      have hgr : wr.cell? ⟨g, 0, none⟩ = some (.func (.func kf) #[] #[]) := (HB.out.cell (p := ⟨g, 0, none⟩) hgl).trans hg
      have hgs : g < wr.heap.size := Nat.lt_of_lt_of_le hgl HB.out.size
      clear HD hg
      rcases hq : q (d k).1 with _ | _
      · have HQ := Lib.hid hq
        clear hq
        go_wp2_with fail
        refine (some1_any kf q his (p k).1 (p k).2.1 (p k).2.2 (d k).2 g (d k).1 _ HN.out hgr hgs).mono ?_; rintro e w2 ⟨rfl, hb2⟩
        rw [HQ.out]
        have HB2 := Lib.hid (HB.out.trans (hb2.mono HB.out.size))
        clear hb2
        go_wp2_with fail
        go_roundw
        case rel => exact ⟨k + 1, by omega, by go_num, HB2.out, fun j hj => by rcases Nat.lt_or_ge j k with h1 | h1; exact HALL.out j h1; obtain rfl : j = k := by omega
                                                                               exact HQ.out⟩
        case measure => simp [intOf]; omega
      · have HQ := Lib.hid hq
        clear hq
        go_wp2_with fail
        refine (some1_any kf q his (p k).1 (p k).2.1 (p k).2.2 (d k).2 g (d k).1 _ HN.out hgr hgs).mono ?_; rintro e w2 ⟨rfl, hb2⟩
        rw [HQ.out]
        have HB2 := Lib.hid (HB.out.trans (hb2.mono HB.out.size))
        clear hb2
        go_wp2_with fail
        go_ret
        exact ⟨⟨_, rfl, ⟨fun _ => ⟨k, hlt, HQ.out⟩, fun _ => by omega⟩⟩, HB2.out⟩
    · obtain rfl : k = n := by omega
      go_wp2_with fail
      go_ret
      exact ⟨⟨_, rfl, ⟨fun h => absurd h (by omega), fun ⟨j, hj, hq⟩ => by rw [HALL.out j hj] at hq; cases hq⟩⟩, HB.out⟩

set_option maxRecDepth 100000 in
theorem containsDec_any (kf : Nat) (q : Int → Bool) (his : Hid (IsBy kf q)) (L S : Nat) (A : Option Addr) (n c g : Nat) (d : Nat → Int × Nat) (p : Nat → Option Addr × Nat × Nat) (w : World) (h : DecsG L S w w.heap.size A n c d p) (hg : w.cell? ⟨g, 0, none⟩ = some (.func (.func kf) #[] #[])) (hgl : g < w.heap.size) :
    Calls Try.prog 46 #[.slice A n c, .func (.func 47) #[] #[.pointer (some ⟨g, 0, none⟩)]] w fun e w' => (∃ b : Bool, e = .returned (.bool b) ∧ (b = true ↔ ∃ j, j < n ∧ q (d j).1 = true)) ∧ Below w.heap.size w w' := by
  have H := Lib.hid h
  clear h
  go_enter Try.func46, Try.ntmps46
  go_wp2_with fail
  refine (indexDec_any kf q his L S A n c g d p _ H.out hg hgl).mono ?_; rintro e w1 ⟨⟨r, rfl, hr⟩, hb⟩
  have HR := Lib.hid hr
  clear hr
  go_wp2_with fail
  go_ret
  exact ⟨⟨_, rfl, by simpa using HR.out⟩, hb⟩

set_option maxRecDepth 100000 in
theorem some_any (kf : Nat) (q : Int → Bool) (his : Hid (IsBy kf q)) (L S : Nat) (A : Option Addr) (n c : Nat) (d : Nat → Int × Nat) (p : Nat → Option Addr × Nat × Nat) (w : World) (h : DecsG L S w w.heap.size A n c d p) :
    Calls Try.prog 28 #[.slice A n c, .func (.func kf) #[] #[]] w fun e w' => (∃ b : Bool, e = .returned (.bool b) ∧ (b = true ↔ ∃ j, j < n ∧ q (d j).1 = true)) ∧ Below w.heap.size w w' := by
  have H := Lib.hid h
  clear h
  go_enter Try.func28, Try.ntmps28
  go_wp2_with fail
  generalize hW : World.alloc w _ = W0
  have hb0 : Below w.heap.size w W0 := by rw [← hW]; exact (Below.refl _ _).alloc (Nat.le_refl _) _
  have hg : W0.cell? ⟨w.heap.size, 0, none⟩ = some (.func (.func kf) #[] #[]) := by rw [← hW]; simp [go_sem]
  have hgl : w.heap.size < W0.heap.size := by rw [← hW]; simp
  have HB := Lib.hid hb0
  clear hb0 hW
  go_wp2_with fail
  refine (containsDec_any kf q his L S A n c w.heap.size d p _ (H.out.on HB.out) hg hgl).mono ?_; rintro e w1 ⟨⟨b, rfl, hr⟩, hb⟩
  have HR := Lib.hid hr
  have HB2 := Lib.hid (HB.out.trans (hb.mono HB.out.size))
  clear hr hb
  go_wp2_with fail
  go_ret
  exact ⟨⟨_, rfl, HR.out⟩, HB2.out⟩

end Go.Proofs.Ytllcjahekckbfaa
