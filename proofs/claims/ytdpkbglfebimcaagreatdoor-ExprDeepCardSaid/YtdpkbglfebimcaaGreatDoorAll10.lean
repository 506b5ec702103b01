/- What the proof needs, texts DigB, DigC, in one text. -/
import Derived.Test.YtdpkbglfebimcaaGreatDoorAll08
import Derived.Laws.BytesArg
set_option linter.unusedVariables false
set_option linter.unusedSimpArgs false
namespace Go.Proofs.YtdpkbglfebimcaaGreatDoor.Num
open Go.RowKit
/-- Bytes as they lie in cells. -/
def bvals (ys : List Nat) : List Value := ys.map (fun (y : Nat) => Value.int .u8 (y : Int))
/-- A text as Go has it. -/
def str (l : List Nat) : ByteArray := ⟨(l.map UInt8.ofNat).toArray⟩
/-- The slice at A of n elements and capacity c reads as the bytes ys. -/
structure Byt (w : World) (B : Nat) (A : Option Addr) (n c : Nat) (ys : List Nat) : Prop where
  len : ys.length = n
  cap : n ≤ c
  room : c ≤ maxLen
  row : Row w B A (bvals ys)
  addr : A = none → c = 0
end Go.Proofs.YtdpkbglfebimcaaGreatDoor.Num
namespace Go.Proofs.YtdpkbglfebimcaaGreatDoor.Num
open Go.RowKit
end Go.Proofs.YtdpkbglfebimcaaGreatDoor.Num
