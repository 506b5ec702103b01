/-
  Contracts of layer 4, the second part: rows of bytes; trimLeftByte, TrimLeft of noughts; Text.
-/
import Derived.Test.YtecgmdomhbmbkaaDoorDigA
import Derived.Laws.BytesArg
namespace Go.Proofs.YtecgmdomhbmbkaaDoor
open Go.RowKit

/-- Bytes as they lie in cells. -/
def bvals (ys : List Nat) : List Value := ys.map (fun (y : Nat) => Value.int .u8 (y : Int))
theorem bvals_len (ys : List Nat) : (bvals ys).length = ys.length := by simp [bvals]
theorem bvals_get {ys : List Nat} {j : Nat} (h : j < ys.length) : (bvals ys)[j]? = some (.int .u8 (gd ys j : Nat)) := by
  unfold bvals; rw [List.getElem?_map, gd_of_lt h]; rfl
theorem bvals_set (ys : List Nat) (i x : Nat) : bvals (ys.set i x) = (bvals ys).set i (.int .u8 (x : Int)) := by simp [bvals, List.map_set]
/-- A text as Go has it. -/
def str (l : List Nat) : ByteArray := ⟨(l.map UInt8.ofNat).toArray⟩
theorem strOfNums_str (l : List Nat) : strOfNums (l.map fun (y : Nat) => (y : Int)) = str l := by
  unfold strOfNums str
  rw [List.map_map]
  congr 2

/-- The slice at A of n elements and capacity c reads as the bytes ys. -/
structure Byt (w : World) (B : Nat) (A : Option Addr) (n c : Nat) (ys : List Nat) : Prop where
  len : ys.length = n
  cap : n ≤ c
  room : c ≤ maxLen
  row : Row w B A (bvals ys)
  addr : A = none → c = 0
theorem Byt.nil {w : World} {B : Nat} : Byt w B none 0 0 [] := ⟨rfl, Nat.le_refl _, by simp [maxLen], .inl rfl, fun _ => rfl⟩
theorem Byt.below {w w' : World} {B n c : Nat} {A : Option Addr} {ys : List Nat} (h : Byt w B A n c ys) (hb : Below B w w') : Byt w' B A n c ys := ⟨h.len, h.cap, h.room, h.row.keep fun _ hp => hb.cell hp, h.addr⟩
theorem Byt.more {w : World} {B B' n c : Nat} {A : Option Addr} {ys : List Nat} (h : Byt w B A n c ys) (hB : B ≤ B') : Byt w B' A n c ys := ⟨h.len, h.cap, h.room, h.row.more hB, h.addr⟩
theorem Byt.at_ {w : World} {B n c : Nat} {A : Option Addr} {ys : List Nat} (h : Byt w B A n c ys) (hk : 0 < n) : ∃ b o, A = some ⟨b, o, none⟩ ∧ b < B ∧ ∀ j, j < n → w.cell? ⟨b, o + j, none⟩ = some (.int .u8 (gd ys j : Nat)) := by
  rcases h.row with h0 | ⟨b, o, rfl, hb, hc⟩
  · have := congrArg List.length h0
    rw [bvals_len, h.len] at this
    simp at this; omega
  · exact ⟨b, o, rfl, hb, fun j hj => hc j _ (bvals_get (by rw [h.len]; exact hj))⟩
/-- Without the first. -/
theorem Byt.tail {w : World} {B n c b o y : Nat} {ys : List Nat} (h : Byt w B (some ⟨b, o, none⟩) (n + 1) c (y :: ys)) (A : Option Addr) (hA : 0 < n → A = some ⟨b, o + 1, none⟩) (hA' : A = none → c - 1 = 0) : Byt w B A n (c - 1) ys := by
  have hl := h.len
  rw [List.length_cons] at hl
  refine ⟨by omega, by have := h.cap; omega, by have := h.room; omega, ?_, hA'⟩
  rcases Nat.eq_zero_or_pos n with h0 | h0
  · left
    rw [List.eq_nil_of_length_eq_zero (show ys.length = 0 by omega)]; rfl
  · obtain rfl := hA h0
    rcases h.row with h1 | ⟨b', o', he, hb, hc⟩
    · simp [bvals] at h1
    · injection he with he; injection he with h2 h3
      subst h2; subst h3
      refine .inr ⟨b, o + 1, rfl, hb, fun j u hu => ?_⟩
      have := hc (j + 1) u (by simpa [bvals] using hu)
      rwa [← Nat.add_assoc, Nat.add_right_comm] at this

theorem lz_nil : lz [] = [] := rfl

set_option maxHeartbeats 1000000 in
set_option maxRecDepth 100000 in
theorem trimByte_any (A : Option Addr) (n c B : Nat) (ys : List Nat) (w : World) (h : Byt w B A n c ys) :
    Calls Tryd.prog 38 #[.slice A n c, .int .u8 48] w fun e w' => (∃ A' n' c', e = .returned (.slice A' n' c') ∧ Hid (Byt w B A' n' c' (lz ys))) ∧ w = w' := by
  have H := Lib.hid h
  clear h
  go_enter Tryd.func38, Tryd.ntmps38
  go_wp2
  go_loop [0] (fun v => ∃ (A' : Option Addr) (n' c' : Nat) (zs : List Nat), v = .slice A' n' c' ∧ Byt w B A' n' c' zs ∧ lz zs = lz ys) (fun v => match v with | .slice _ n' _ => n' | _ => 0)
  case atStart => exact ⟨A, n, c, ys, rfl, H.out, rfl⟩
  case round =>
    obtain ⟨A', n', c', zs, rfl, hz, hl⟩ := hrel
    have hm := hz.room
    have hcap := hz.cap
    unfold maxLen at hm
    have HL := Lib.hid hl
    have HZ := Lib.hid hz
    clear hz hl
    rcases Nat.eq_zero_or_pos n' with h0 | h0
    · subst h0
      have HE : Hid (lz ys = []) := by
        have := HL.out
        rw [List.eq_nil_of_length_eq_zero HZ.out.len, lz_nil] at this
        exact this.symm
      go_wp2
      go_ret
      exact ⟨⟨none, 0, 0, rfl, by show Byt _ _ _ _ _ _; rw [HE.out]; exact Byt.nil⟩, rfl⟩
    · obtain ⟨m, rfl⟩ : ∃ m, n' = m + 1 := ⟨n' - 1, by omega⟩
      obtain ⟨y, zs, rfl⟩ : ∃ y r, zs = y :: r := by
        match zs, HZ.out.len with
        | y :: r, _ => exact ⟨y, r, rfl⟩
      obtain ⟨b, o, rfl, _, hc⟩ := HZ.out.at_ h0
      have hc0 := hc 0 h0
      rw [Nat.add_zero, gd_cons_zero] at hc0
      clear hc
      by_cases hy : y = 48
      · subst hy
        rcases Nat.eq_or_lt_of_le (show 1 ≤ c' by omega) with h1 | h1
        · subst h1
          obtain rfl : m = 0 := by omega
          go_wp2
          go_round
          case rel => exact ⟨_, _, _, zs, rfl, HZ.out.tail _ (fun h => absurd h (by omega)) (fun h => by cases h), by have := HL.out; rwa [lz_cons_yes] at this⟩
          case measure => simp
        · go_wp2
          go_round
          case rel => exact ⟨_, _, _, zs, by go_num, HZ.out.tail _ (fun _ => rfl) (fun h => by cases h), by have := HL.out; rwa [lz_cons_yes] at this⟩
          case measure => simp
      · have hy' : ((y : Int) == 48) = false := by simp; omega
        have HE : Hid (lz ys = y :: zs) := by
          have := HL.out
          rw [lz_cons_no _ hy] at this
          exact this.symm
        clear hy
        go_wp2
        go_ret
        exact ⟨⟨_, _, _, rfl, by show Byt _ _ _ _ _ _; rw [HE.out]; exact HZ.out⟩, rfl⟩

end Go.Proofs.YtecgmdomhbmbkaaDoor
