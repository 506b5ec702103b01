/-
  The law's own examples (awake) answer true, whatever the memory.
-/
import Derived.Test.YtecgmdomhbmbkaaDoorNatG
namespace Go.Proofs.YtecgmdomhbmbkaaDoor
open Go.RowKit

/-- From the world w0 on nothing that was there has turned, and in w these slices read as these numbers. -/
def Env (w0 w : World) (l : List (Option Addr × Nat × Nat × Nat)) : Prop :=
  Below w0.heap.size w0 w ∧ ∀ q ∈ l, Num w w.heap.size q.1 q.2.1 q.2.2.1 q.2.2.2

theorem Env.get {w0 w : World} {l : List (Option Addr × Nat × Nat × Nat)} (h : Hid (Env w0 w l)) {A : Option Addr} {n c a : Nat} (hm : (A, n, c, a) ∈ l) : Num w w.heap.size A n c a := h.out.2 _ hm
theorem Env.step {w0 w w' : World} {l : List (Option Addr × Nat × Nat × Nat)} (h : Hid (Env w0 w l)) (hb : Below w.heap.size w w') : Hid (Env w0 w' l) :=
  ⟨h.out.1.trans (hb.mono h.out.1.size), fun q hq => ((h.out.2 q hq).below hb).more hb.size⟩
theorem Env.push {w0 w w' : World} {l : List (Option Addr × Nat × Nat × Nat)} (h : Hid (Env w0 w l)) (hb : Below w.heap.size w w') {A : Option Addr} {n c a : Nat} (hn : Num w' w'.heap.size A n c a) : Hid (Env w0 w' ((A, n, c, a) :: l)) := by
  have h2 := Env.step h hb
  refine ⟨h2.out.1, fun q hq => ?_⟩
  rcases List.mem_cons.1 hq with rfl | hq
  · exact hn
  · exact h2.out.2 q hq
theorem Env.refl (w : World) : Hid (Env w w []) := ⟨Below.refl _ _, fun q hq => by cases hq⟩
theorem Env.alloc {w0 w : World} {l : List (Option Addr × Nat × Nat × Nat)} (h : Hid (Env w0 w l)) (o : Obj) : Hid (Env w0 (w.alloc o) l) := Env.step h ((Below.refl _ _).alloc (Nat.le_refl _) o)

theorem Lim.lit (w : World) (xs : List Nat) (vs : Array Value) (h : vs.toList = vals xs) (hf : ∀ x ∈ xs, x < 4294967296) (hl : xs.length ≤ 1000) (t : TypeId) : Lim (w.alloc (.cells vs t)) (w.alloc (.cells vs t)).heap.size (some ⟨w.heap.size, 0, none⟩) xs.length xs.length xs := by
  refine ⟨rfl, Nat.le_refl _, by unfold maxLen; omega, hf, .inr ⟨w.heap.size, 0, rfl, by simp, fun j u hu => ?_⟩, fun h => by cases h⟩
  rw [cell_of_row _ w.heap.size _ _ t (0, 0) (heap_alloc_new w _), ← Array.getElem?_toList, h, Nat.zero_add]
  exact hu

theorem mk_any (N : Nat) (v : Int) (hv : v = N) (hN : N < 18446744073709551616) (w : World) : Calls Tryd.prog 45 #[.int .u64 v] w (RetNum w N) := by
  subst hv; exact make_any N hN w

theorem cmp_is {s : Int} {A A' : Option Addr} {n c n' c' a b : Nat} {w : World} (h : Num w w.heap.size A n c a) (h' : Num w w.heap.size A' n' c' b) (hs : cmpN a b = s) :
    Calls Tryd.prog 31 #[.slice A n c, .slice A' n' c'] w (RetVal w (.int .i64 s)) := by
  subst hs; exact cmp_any A A' n c n' c' a b w h h'
theorem same_is {A A' : Option Addr} {n c n' c' a b : Nat} {w : World} (h : Num w w.heap.size A n c a) (h' : Num w w.heap.size A' n' c' b) (hs : a = b) :
    Calls Tryd.prog 20 #[.slice A n c, .slice A' n' c'] w (RetVal w (.bool true)) := by
  have := same_any A A' n c n' c' a b w h h'
  rwa [decide_eq_true hs] at this
theorem right_is {A : Option Addr} {n c B : Nat} {xs : List Nat} {w : World} {t : Bool} (h : Lim w B A n c xs) (hs : rightB xs = t) :
    Calls Tryd.prog 21 #[.slice A n c] w fun e w' => e = .returned (.bool t) ∧ w = w' := by
  subst hs; exact right_any A n c B xs w h
theorem trim_is {A : Option Addr} {n c m : Nat} {xs : List Nat} {w : World} (h : Lim w w.heap.size A n c xs) (hx : limbs xs) (hn : n ≤ 1000000000) (hm : val xs = m) :
    Calls Tryd.prog 23 #[.slice A n c] w (RetNum w m) := by
  subst hm; exact trim_any A n c xs w h hx hn

def n1 : Nat := 1000000005
def n2 : Nat := 999999999
def n3 : Nat := 2000000004
def big : Nat := 100000000000000000000
theorem dg_n1 : dg n1 = [5, 1] := by unfold n1; rw [dg_pos (by omega), dg_pos (by omega), dg_zero]
theorem dg_n2 : dg n2 = [999999999] := by unfold n2; rw [dg_pos (by omega), dg_zero]
theorem dg_n3 : dg n3 = [4, 2] := by unfold n3; rw [dg_pos (by omega), dg_pos (by omega), dg_zero]
theorem dg_big : dg big = [0, 0, 100] := by unfold big; rw [dg_pos (by omega), dg_pos (by omega), dg_pos (by omega), dg_zero]
theorem dg_7 : dg 7 = [7] := by rw [dg_pos (by omega), dg_zero]

theorem lit_100 (w : World) : Num (w.alloc (.cells #[.int .u32 0, .int .u32 0, .int .u32 100] 36)) (w.alloc (.cells #[.int .u32 0, .int .u32 0, .int .u32 100] 36)).heap.size (some ⟨w.heap.size, 0, none⟩) 3 3 big := by
  rw [Num, dg_big]; exact Lim.lit w [0, 0, 100] _ rfl (by decide) (by decide) _
theorem lit_0 (w : World) : Lim (w.alloc (.cells #[.int .u32 0] 36)) (w.alloc (.cells #[.int .u32 0] 36)).heap.size (some ⟨w.heap.size, 0, none⟩) 1 1 [0] := Lim.lit w [0] _ rfl (by decide) (by decide) _
theorem lit_base (w : World) : Lim (w.alloc (.cells #[.int .u32 1000000000] 36)) (w.alloc (.cells #[.int .u32 1000000000] 36)).heap.size (some ⟨w.heap.size, 0, none⟩) 1 1 [1000000000] := Lim.lit w [1000000000] _ rfl (by decide) (by decide) _
theorem lit_7 (w : World) : Lim (w.alloc (.cells #[.int .u32 7, .int .u32 0, .int .u32 0] 36)) (w.alloc (.cells #[.int .u32 7, .int .u32 0, .int .u32 0] 36)).heap.size (some ⟨w.heap.size, 0, none⟩) 3 3 [7, 0, 0] := Lim.lit w [7, 0, 0] _ rfl (by decide) (by decide) _
theorem call_0 (w : World) : Calls Tryd.prog 21 #[.slice (some ⟨w.heap.size, 0, none⟩) 1 1] (w.alloc (.cells #[.int .u32 0] 36)) fun e w' => e = .returned (.bool false) ∧ (w.alloc (.cells #[.int .u32 0] 36)) = w' := right_is (lit_0 w) (by decide)
theorem call_base (w : World) (g : Nat) (hg : g = w.heap.size) : Calls Tryd.prog 21 #[.slice (some ⟨g, 0, none⟩) 1 1] (w.alloc (.cells #[.int .u32 1000000000] 36)) fun e w' => e = .returned (.bool false) ∧ (w.alloc (.cells #[.int .u32 1000000000] 36)) = w' := by subst hg; exact right_is (lit_base w) (by decide)
theorem call_7 (w : World) (g : Nat) (hg : g = w.heap.size) : Calls Tryd.prog 23 #[.slice (some ⟨g, 0, none⟩) 3 3] (w.alloc (.cells #[.int .u32 7, .int .u32 0, .int .u32 0] 36)) (RetNum (w.alloc (.cells #[.int .u32 7, .int .u32 0, .int .u32 0] 36)) 7) := by subst hg; exact trim_is (lit_7 w) (by unfold limbs; decide) (by decide) rfl

end Go.Proofs.YtecgmdomhbmbkaaDoor
