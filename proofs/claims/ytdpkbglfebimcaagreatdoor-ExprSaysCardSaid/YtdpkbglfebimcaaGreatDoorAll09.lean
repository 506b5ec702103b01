/- What the proof needs, texts DigB, DigC, in one text. -/
import Derived.Test.YtdpkbglfebimcaaGreatDoorAll07
import Derived.Laws.BytesArg
set_option linter.unusedVariables false
set_option linter.unusedSimpArgs false
set_option maxRecDepth 100000
set_option maxHeartbeats 32000000
namespace Go.Proofs.YtdpkbglfebimcaaGreatDoor.Num
open Go.RowKit
def bvals (ys : List Nat) : List Value := ys.map (fun (y : Nat) => Value.int .u8 (y : Int))
theorem bvals_len (ys : List Nat) : (bvals ys).length = ys.length := by simp [bvals]
theorem bvals_get {ys : List Nat} {j : Nat} (h : j < ys.length) : (bvals ys)[j]? = some (.int .u8 (gd ys j : Nat)) := by
 unfold bvals; rw [List.getElem?_map, gd_of_lt h]; rfl
def str (l : List Nat) : ByteArray := ⟨(l.map UInt8.ofNat).toArray⟩
theorem strOfNums_str (l : List Nat) : strOfNums (l.map fun (y : Nat) => (y : Int)) = str l := by
 unfold strOfNums str
 rw [List.map_map]
 congr 2
structure Byt (w : World) (B : Nat) (A : Option Addr) (n c : Nat) (ys : List Nat) : Prop where
 len : ys.length = n
 cap : n ≤ c
 room : c ≤ maxLen
 row : Row w B A (bvals ys)
 addr : A = none → c = 0
theorem Byt.at_ {w : World} {B n c : Nat} {A : Option Addr} {ys : List Nat} (h : Byt w B A n c ys) (hk : 0 < n) : ∃ b o, A = some ⟨b, o, none⟩ ∧ b < B ∧ ∀ j, j < n → w.cell? ⟨b, o + j, none⟩ = some (.int .u8 (gd ys j : Nat)) := by
 rcases h.row with h0 | ⟨b, o, rfl, hb, hc⟩
 ·have := congrArg List.length h0
  rw [bvals_len, h.len] at this
  simp at this; omega
 ·exact ⟨b, o, rfl, hb, fun j hj => hc j _ (bvals_get (by rw [h.len]; exact hj))⟩
end Go.Proofs.YtdpkbglfebimcaaGreatDoor.Num
