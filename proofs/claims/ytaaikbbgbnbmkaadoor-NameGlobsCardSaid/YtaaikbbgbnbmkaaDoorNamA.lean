/-
  Contracts of layer 11, the first part: which bytes a text has (just; upper, lower, digit), what the library's calls answer as lists of bytes.
-/
import Derived.Test.YtaaikbbgbnbmkaaDoorNamMath
import Derived.Test.YtaaikbbgbnbmkaaDoorChecked
import Derived.Test.YtaaikbbgbnbmkaaDoorShelf
import Derived.KernelRfl
import Derived.Deep.QuietTactic
import Derived.BigQuiet
import Derived.WalkMore
import Derived.Deep.LoopGhost
import Derived.Deep.RegionWith
import Derived.Deep.RegionHeld3
import Derived.Deep.AppendLies
import Derived.Laws.OwnMore
import Derived.Lib.Hide
import Derived.IntWalk
import Derived.Laws.BytesArg
import Derived.Lib.AppendIntMem
import Derived.Lib.LastIndexLaws
set_option linter.unusedVariables false
set_option linter.unusedSimpArgs false
namespace Go.Proofs.YtaaikbbgbnbmkaaDoor
open Go.RowKit

/-- What a call hands back; nothing that was there has turned. -/
def Ret9 (W : World) (v : Value) (e : Ending) (w' : World) : Prop := e = .returned v ∧ Below W.heap.size W w'
theorem below_drewN (w : World) (n : Nat) : Below w.heap.size w (w.drewN n) := ⟨rfl, rfl, rfl, Nat.le_refl _, fun _ _ => rfl⟩
theorem sl_from {s X : ByteArray} {i : Nat} (h : i ≤ s.size) (hX : s.extract i s.size = X) (w' : World) : (Instr.slice 9 (.string s) (some (.int .i64 (i : Int))) none none).run Tryd.prog w' = .ok (.string X) w' := by
  rw [run_slice_string_l w' _ s Tryd.underlying9 _ _ (by omega) (by omega), Int.toNat_natCast, hX]
theorem sl_to {s X : ByteArray} {i : Nat} (h : i ≤ s.size) (hX : s.extract 0 i = X) (w' : World) : (Instr.slice 9 (.string s) none (some (.int .i64 (i : Int))) none).run Tryd.prog w' = .ok (.string X) w' := by
  rw [run_slice_string_h w' _ s Tryd.underlying9 _ _ (by omega) (by omega), Int.toNat_natCast, hX]
theorem sl_both {s X : ByteArray} {i j : Nat} (h : i ≤ j) (h2 : j ≤ s.size) (hX : s.extract i j = X) (w' : World) : (Instr.slice 9 (.string s) (some (.int .i64 (i : Int))) (some (.int .i64 (j : Int))) none).run Tryd.prog w' = .ok (.string X) w' := by
  rw [run_slice_string w' _ s _ _ _ _ Tryd.underlying9 (by omega) (by omega) (by omega), Int.toNat_natCast, Int.toNat_natCast, hX]
theorem add9 {x y z : ByteArray} (h : bs9 x ++ bs9 y = bs9 z) (hl : x.size + y.size ≤ 9223372036854775807) (w : World) : (Op.stringOp .add x y).run Tryd.prog w = .ok (.string z) w := by
  have e : x ++ y = z := bs9_inj (by rw [bs9_append, h])
  rw [run_string_add_sum w _ _ hl, e]
theorem bs9_at (s : ByteArray) (i : Nat) (h : i < s.size) : (bs9 s)[i]? = some (s[i]'h).toNat := by
  have e := congrArg List.head? (bs9_get s i h)
  rw [List.head?_drop] at e
  exact e
theorem str_nil {s : ByteArray} (h : s.size = 0) : s = ⟨#[]⟩ := by
  apply bs9_inj
  have := bs9_len s
  rw [h] at this
  rw [List.eq_nil_of_length_eq_zero this]; rfl
theorem str_ne {s : ByteArray} (h : 0 < s.size) : (s.toList == []) = false := by
  rw [beq_eq_false_iff_ne, ByteArray.toList_eq]
  intro e
  have := congrArg List.length e
  have h2 := bs9_len s
  unfold bs9 at h2
  rw [List.length_map, e] at h2
  simp at h2; omega
theorem str_emp {s : ByteArray} (h : s.size = 0) : (s.toList == []) = true := by rw [str_nil h, ByteArray.toList_eq]; rfl
theorem emp_not {s : ByteArray} (h : 0 < s.size) : s.toList.isEmpty = false := by
  have := str_ne h
  cases hx : s.toList with
  | nil => rw [hx] at this; simp at this
  | cons a l => rfl
theorem emp_yes {s : ByteArray} (h : s.size = 0) : s.toList.isEmpty = true := by rw [str_nil h, ByteArray.toList_eq]; rfl
theorem rb9 {a b : Bool} (h : a = b) : Ending.returned (.bool a) = .returned (.bool b) := by rw [h]
theorem nil_of {s : ByteArray} (h : s.size = 0) : bs9 s = [] := by rw [str_nil h]; rfl

/-- What bytes there are. -/
def upB (c : Nat) : Bool := decide (65 ≤ c) && decide (c ≤ 90)
def lwB (c : Nat) : Bool := decide (97 ≤ c) && decide (c ≤ 122)
def dgB (c : Nat) : Bool := decide (48 ≤ c) && decide (c ≤ 57)
/-- Has a text none but these? -/
def jst (T l : List Nat) : Bool := l.all fun c => T.contains c
theorem jst_of {T l : List Nat} {f : Nat → Bool} (hT : ((List.range 256).all fun c => T.contains c == f c) = true) (hl : ∀ c ∈ l, c < 256) : jst T l = l.all f := by
  unfold jst
  rw [List.all_eq_true] at hT
  induction l with
  | nil => rfl
  | cons c l ih =>
    have h1 := hT c (List.mem_range.2 (hl c List.mem_cons_self))
    rw [List.all_cons, List.all_cons, beq_iff_eq.1 h1, ih fun x hx => hl x (List.mem_cons_of_mem _ hx)]
theorem all_step {α : Type} {l : List α} {f : α → Bool} {i : Nat} {x : α} (h : l[i]? = some x) (h2 : (l.take i).all f = true) (h3 : f x = true) : (l.take (i + 1)).all f = true := by
  rw [List.take_add_one, h, List.all_append, h2]
  show (true && [x].all f) = true
  rw [List.all_cons, h3]; rfl
theorem all_no {α : Type} {l : List α} {f : α → Bool} {i : Nat} {x : α} (h : l[i]? = some x) (h3 : f x = false) : l.all f = false := by
  cases e : l.all f with
  | false => rfl
  | true =>
    rw [List.all_eq_true] at e
    rw [e x (List.mem_of_getElem? h)] at h3
    cases h3
theorem all_end {α : Type} {l : List α} {f : α → Bool} {i : Nat} (hi : l.length ≤ i) (h2 : (l.take i).all f = true) : l.all f = true := by rwa [List.take_of_length_le hi] at h2

theorem idx_in (l : List UInt8) (c : UInt8) : (c ∈ l ∧ ∃ k : Nat, Lib.indexByte l c = (k : Int)) ∨ (c ∉ l ∧ Lib.indexByte l c = -1) := by
  induction l with
  | nil => exact .inr ⟨List.not_mem_nil, rfl⟩
  | cons b l ih =>
    by_cases h : b = c
    · subst h
      exact .inl ⟨List.mem_cons_self, 0, by unfold Lib.indexByte; rw [if_pos (by simp)]; rfl⟩
    · rcases ih with ⟨h1, k, hk⟩ | ⟨h1, hk⟩
      · exact .inl ⟨List.mem_cons_of_mem _ h1, k + 1, by unfold Lib.indexByte; rw [if_neg (by simpa using h), hk, if_neg (by simp <;> omega)]; rfl⟩
      · refine .inr ⟨fun e => ?_, by unfold Lib.indexByte; rw [if_neg (by simpa using h), hk]; rfl⟩
        rcases List.mem_cons.1 e with e | e
        · exact h e.symm
        · exact h1 e
theorem mem_bs9 {T : ByteArray} {x : Nat} (hx : x < 256) : (UInt8.ofNat x ∈ T.data.toList) ↔ (bs9 T).contains x = true := by
  rw [List.contains_iff_mem]
  unfold bs9
  rw [List.mem_map]
  constructor
  · intro h; exact ⟨_, h, by rw [UInt8.toNat_ofNat'] <;> omega⟩
  · rintro ⟨a, h, rfl⟩; rwa [UInt8.ofNat_toNat]
/-- strings.IndexByte: is the byte among these? -/
theorem idx_is (T : ByteArray) {x : Nat} (hx : x < 256) (w : World) : ∃ z : Int, (((bs9 T).contains x = true ∧ ∃ k : Nat, z = k) ∨ ((bs9 T).contains x = false ∧ z = -1)) ∧
    Calls Tryd.prog 45 #[.string T, .int .u8 (x : Int)] w (fun e w' => e = .returned (.int .i64 z) ∧ w' = w) := by
  refine ⟨_, ?_, Tryd.strings_IndexByte T (x : Int) w⟩
  have e : (x : Int).toNat.toUInt8 = UInt8.ofNat x := by rw [Int.toNat_natCast]
  rw [e]
  rcases idx_in T.data.toList (UInt8.ofNat x) with ⟨h, k, hk⟩ | ⟨h, hk⟩
  · exact .inl ⟨(mem_bs9 hx).1 h, k, hk⟩
  · refine .inr ⟨?_, hk⟩
    cases hc : (bs9 T).contains x with
    | false => rfl
    | true => exact absurd ((mem_bs9 hx).2 hc) h

set_option maxHeartbeats 4000000 in
set_option maxRecDepth 100000 in
theorem just_any (s T : ByteArray) (w : World) (hs : s.size ≤ 1000000) : Calls Tryd.prog 36 #[.string s, .string T] w (fun e w' => e = .returned (.bool (jst (bs9 T) (bs9 s))) ∧ w' = w) := by
  obtain ⟨r, hr⟩ : ∃ r, jst (bs9 T) (bs9 s) = r := ⟨_, rfl⟩
  rw [hr]
  have HR := Lib.hid hr
  clear hr
  go_enter Tryd.func36, Tryd.ntmps36
  go_wp2_with fail
  go_loopw [8] (fun iv wr => ∃ i : Nat, iv = .int .i64 i ∧ i ≤ s.size ∧ jst (bs9 T) ((bs9 s).take i) = true ∧ wr = w) (fun iv _ => s.size - (intOf iv).toNat)
  case atStart => exact ⟨0, rfl, Nat.zero_le _, rfl, rfl⟩
  case round =>
    obtain ⟨i, rfl, hi, hj, rfl⟩ := hrel
    have HJ := Lib.hid hj
    clear hj
    rcases Nat.lt_or_ge i s.size with hlt | hge
    · obtain ⟨x, hx⟩ : ∃ x, x = (s[i]'hlt).toNat := ⟨_, rfl⟩
      have ex : ((s[i]'hlt).toNat : Int) = (x : Int) := by rw [hx]
      have hx2 : x < 256 := by rw [hx]; exact UInt8.toNat_lt _
      have HX : Hid ((bs9 s)[i]? = some x) := by show _ = _; rw [bs9_at s i hlt, hx]
      clear hx
      obtain ⟨z, hz, hc⟩ := idx_is T hx2 wr
      have HC := Lib.hid hc
      clear hc
      rcases hz with ⟨h1, k, rfl⟩ | ⟨h1, rfl⟩
      · have HJ2 : Hid (jst (bs9 T) ((bs9 s).take (i + 1)) = true) := all_step HX.out HJ.out h1
        clear h1
        go_wp2_with fail
        refine HC.out.mono ?_; rintro e w1 ⟨rfl, rfl⟩
        go_wp2_with fail
        go_roundw
        case rel => exact ⟨i + 1, by go_num, by omega, HJ2.out, trivial⟩
        case measure => simp [intOf] <;> omega
      · have E : Hid (r = false) := by show _ = _; rw [← HR.out]; exact all_no HX.out h1
        clear h1
        go_wp2_with fail
        refine HC.out.mono ?_; rintro e w1 ⟨rfl, rfl⟩
        go_wp2_with fail
        go_ret
        exact ⟨rb9 E.out.symm, rfl⟩
    · have E : Hid (r = true) := by show _ = _; rw [← HR.out]; exact all_end (by rw [bs9_len]; omega) HJ.out
      go_wp2_with fail
      go_ret
      exact ⟨rb9 E.out.symm, rfl⟩
theorem just_is {s T : ByteArray} {w : World} {f : Nat → Bool} {b : Bool} (hT : ((List.range 256).all fun c => (bs9 T).contains c == f c) = true) (h : (bs9 s).all f = b) (hs : s.size ≤ 1000000) :
    Calls Tryd.prog 36 #[.string s, .string T] w (fun e w' => e = .returned (.bool b) ∧ w' = w) := by
  have := just_any s T w hs
  rw [jst_of hT (bs9_lt s), h] at this
  exact this

set_option maxHeartbeats 1000000 in
theorem up_is {x : Nat} {b : Bool} (h : upB x = b) (w : World) : Calls Tryd.prog 37 #[.int .u8 (x : Int)] w (fun e w' => e = .returned (.bool b) ∧ w' = w) := by
  have H := Lib.hid h
  clear h
  rcases Nat.lt_or_ge x 65 with h1 | h1
  · have E : Hid (false = b) := by show _ = _; rw [← H.out]; unfold upB; rw [decide_eq_false (by omega)]; rfl
    go_enter Tryd.func37, Tryd.ntmps37
    go_wp2_with fail
    go_ret
    exact ⟨rb9 E.out, rfl⟩
  · have E : Hid (decide ((x : Int) ≤ 90) = b) := by show _ = _; rw [← H.out]; unfold upB; rw [decide_eq_true h1, Bool.true_and]; exact decide_eq_decide.2 (by omega)
    go_enter Tryd.func37, Tryd.ntmps37
    go_wp2_with fail
    go_ret
    exact ⟨rb9 E.out, rfl⟩
set_option maxHeartbeats 1000000 in
theorem lw_is {x : Nat} {b : Bool} (h : lwB x = b) (w : World) : Calls Tryd.prog 39 #[.int .u8 (x : Int)] w (fun e w' => e = .returned (.bool b) ∧ w' = w) := by
  have H := Lib.hid h
  clear h
  rcases Nat.lt_or_ge x 97 with h1 | h1
  · have E : Hid (false = b) := by show _ = _; rw [← H.out]; unfold lwB; rw [decide_eq_false (by omega)]; rfl
    go_enter Tryd.func39, Tryd.ntmps39
    go_wp2_with fail
    go_ret
    exact ⟨rb9 E.out, rfl⟩
  · have E : Hid (decide ((x : Int) ≤ 122) = b) := by show _ = _; rw [← H.out]; unfold lwB; rw [decide_eq_true h1, Bool.true_and]; exact decide_eq_decide.2 (by omega)
    go_enter Tryd.func39, Tryd.ntmps39
    go_wp2_with fail
    go_ret
    exact ⟨rb9 E.out, rfl⟩
set_option maxHeartbeats 1000000 in
theorem dg_is {x : Nat} {b : Bool} (h : dgB x = b) (w : World) : Calls Tryd.prog 38 #[.int .u8 (x : Int)] w (fun e w' => e = .returned (.bool b) ∧ w' = w) := by
  have H := Lib.hid h
  clear h
  rcases Nat.lt_or_ge x 48 with h1 | h1
  · have E : Hid (false = b) := by show _ = _; rw [← H.out]; unfold dgB; rw [decide_eq_false (by omega)]; rfl
    go_enter Tryd.func38, Tryd.ntmps38
    go_wp2_with fail
    go_ret
    exact ⟨rb9 E.out, rfl⟩
  · have E : Hid (decide ((x : Int) ≤ 57) = b) := by show _ = _; rw [← H.out]; unfold dgB; rw [decide_eq_true h1, Bool.true_and]; exact decide_eq_decide.2 (by omega)
    go_enter Tryd.func38, Tryd.ntmps38
    go_wp2_with fail
    go_ret
    exact ⟨rb9 E.out, rfl⟩

end Go.Proofs.YtaaikbbgbnbmkaaDoor
