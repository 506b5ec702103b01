/- What the proofs of this layer need of the layer Lex, in one text. -/
import Derived.Test.YtjkandnbjbfeiaaDoorAllLexEA
set_option linter.unusedVariables false
set_option linter.unusedSimpArgs false

/-
  Layer 12: what the laws ask of the program's own lex (Lexes), and the walk of LexQuotes over it.
-/
namespace Go.Proofs.YtjkandnbjbfeiaaDoor
open Go.RowKit

/-- The program's own lex, as the laws want it; ok: what is asked of a world. -/
structure Lexes (D N : List Nat → Bool) (ok : World → Prop) : Prop where
  quote : ∀ {s X : ByteArray} {w : World}, ok w → qt (bs9 s) = bs9 X → s.size ≤ 1000 → Calls Tryd.prog 8 #[.string s] w (Ret9 w (.string X))
  unquote : ∀ {s X : ByteArray} {n e : Nat} {w : World}, ok w → uqv (bs9 s) = (bs9 X, n, e) → s.size ≤ 1000 → Calls Tryd.prog 9 #[.string s] w (Ret9 w (.tuple #[.string X, .int .i64 (n : Int), .int .i64 (e : Int)]))
  mark : ∀ {s : ByteArray} {n : Nat} {w : World}, ok w → mrk (bs9 s) = n → s.size ≤ 1000 → Calls Tryd.prog 10 #[.string s] w (Ret9 w (.int .i64 (n : Int)))
  text : ∀ {k : Nat} {X Y : ByteArray} {w : World} (l c : Int), ok w → txt k (bs9 X) = bs9 Y → X.size ≤ 1000 → Calls Tryd.prog 7 #[.agg #[.int .i64 (k : Int), .string X, .int .i64 l, .int .i64 c]] w (Ret9 w (.string Y))
  nextOk : ∀ {s Y : ByteArray} {k n : Nat} {w : World}, ok w → nxt D N (bs9 s) = .inr (k, bs9 Y, n) → s.size ≤ 1000 → Calls Tryd.prog 12 #[.string s] w (Ret9 w (.tuple #[.agg #[.int .i64 (k : Int), .string Y, .int .i64 0, .int .i64 0], .int .i64 (n : Int), .int .i64 0]))
  nextNo : ∀ {s : ByteArray} {e : Nat} {w : World}, ok w → nxt D N (bs9 s) = .inl e → s.size ≤ 1000 → Calls Tryd.prog 12 #[.string s] w (Ret9 w (.tuple #[.agg #[.int .i64 0, .string ⟨#[]⟩, .int .i64 0, .int .i64 0], .int .i64 0, .int .i64 (e : Int)]))
  words : ∀ (no : Int) (s : ByteArray) {w : World}, ok w → s.size ≤ 1000 → Calls Tryd.prog 6 #[.agg #[.int .i64 no, .string s]] w (RetW w no (WD D N 0 (bs9 s)))
/-- The examples answer true. -/
def Awk (ok : World → Prop) : Prop := ∀ w : World, ok w → Calls Tryd.prog 5 #[] w (Ret9 w (.bool true))

theorem qtb_lt {l : List Nat} (h : ∀ c ∈ l, c < 256) : ∀ c ∈ qtb l, c < 256 := by
  intro c hc
  obtain ⟨b, hb, hc⟩ := List.mem_flatMap.1 hc
  have := h b hb
  unfold esc at hc
  (repeat' split at hc) <;> simp at hc <;> omega
theorem qt_lt {l : List Nat} (h : ∀ c ∈ l, c < 256) : ∀ c ∈ qt l, c < 256 := by
  intro c hc
  unfold qt at hc
  rcases List.mem_cons.1 hc with rfl | hc
  · decide
  · rcases List.mem_append.1 hc with hc | hc
    · exact qtb_lt h c hc
    · rw [List.mem_singleton.1 hc]; decide
theorem qtb_len (l : List Nat) : (qtb l).length ≤ 2 * l.length := by
  induction l with
  | nil => exact Nat.le_refl _
  | cons b l ih => rw [qtb_cons, List.length_append, List.length_cons]; have := esc_len b; omega
theorem qt_len (l : List Nat) : (qt l).length ≤ 2 * l.length + 2 := by
  unfold qt
  rw [List.length_cons, List.length_append]
  have := qtb_len l
  show _ + 1 + 1 ≤ _; omega
theorem uqv_quote (s more : List Nat) : uqv (qt s ++ more) = (s, (qt s).length, 0) := by
  unfold qt
  rw [List.cons_append, uqv, if_pos rfl, List.append_assoc, List.singleton_append, uqg_quote]
  show (s, (qtb s).length + 1 + 1, 0) = _
  rw [List.length_cons, List.length_append]; rfl

set_option maxHeartbeats 8000000 in
set_option maxRecDepth 100000 in
theorem quotes12_law {D N : List Nat → Bool} {ok : World → Prop} (hk : Okw ok) (LX : Lexes D N ok) (haw : Awk ok) (s t : ByteArray) (w : World) (hok : ok w) : Calls Tryd.prog 4 #[.string s, .string t] w (Ret9 w (.bool true)) := by
  have OK : Hid (∀ {W : World}, Below w.heap.size w W → ok W) := fun hb => hk hok hb
  have LXH := Lib.hid LX
  have HAW := Lib.hid haw
  have E : Hid (Below w.heap.size w w) := Below.refl _ _
  clear LX haw hk hok
  rcases Nat.lt_or_ge 300 s.size with hs | hs
  · have ds : decide ((300 : Int) < (s.size : Int)) = true := decide_eq_true (by omega)
    go_enter Tryd.func4, Tryd.ntmps4
    go_wp2_with fail
    refine (HAW.out _ (OK.out E.out)).mono ?_; rintro e w1 ⟨rfl, hb⟩; replace E := Lib.hid (E.out.trans (hb.mono E.out.size)); clear hb
    go_wp2_with fail
    go_ret
    exact ⟨rfl, E.out⟩
  have ds : decide ((300 : Int) < (s.size : Int)) = false := decide_eq_false (by omega)
  rcases Nat.lt_or_ge 300 t.size with ht | ht
  · have dt : decide ((300 : Int) < (t.size : Int)) = true := decide_eq_true (by omega)
    go_enter Tryd.func4, Tryd.ntmps4
    go_wp2_with fail
    refine (HAW.out _ (OK.out E.out)).mono ?_; rintro e w1 ⟨rfl, hb⟩; replace E := Lib.hid (E.out.trans (hb.mono E.out.size)); clear hb
    go_wp2_with fail
    go_ret
    exact ⟨rfl, E.out⟩
  have dt : decide ((300 : Int) < (t.size : Int)) = false := decide_eq_false (by omega)
  obtain ⟨X, hX⟩ : ∃ X, bs9 X = qt (bs9 s) := ⟨_, bs9_st9 (qt_lt (bs9_lt s))⟩
  have hXs : X.size ≤ 602 := by
    have := qt_len (bs9 s)
    rw [← hX, bs9_len, bs9_len] at this; omega
  obtain ⟨Q, hQ⟩ : ∃ Q, X ++ t = Q := ⟨_, rfl⟩
  have hadd : ∀ w, (Op.stringOp .add X t).run Tryd.prog w = .ok (.string Q) w := fun w => add9 (by rw [← bs9_append, hQ]) (by omega) w
  have hQs : Q.size ≤ 1000 := by rw [← hQ, ByteArray.size_append]; omega
  have HQ : Hid (uqv (bs9 Q) = (bs9 s, X.size, 0)) := by show _ = _; rw [← hQ, bs9_append, hX, uqv_quote, ← hX, bs9_len]
  have HX : Hid (qt (bs9 s) = bs9 X) := hX.symm
  have NT : Hid (∀ (i : Nat) (x : Nat), (bs9 X)[i]? = some x → x ≠ 10) := fun i x hx e => by
    have := List.mem_of_getElem? hx
    rw [hX, e] at this
    exact qt_ten _ this
  have hs1 : s.size ≤ 1000 := by omega
  clear hX hQ
  go_enter Tryd.func4, Tryd.ntmps4
  go_wp2_with fail
  refine (LXH.out.quote (OK.out E.out) HX.out hs1).mono ?_; rintro e w1 ⟨rfl, hb⟩; replace E := Lib.hid (E.out.trans (hb.mono E.out.size)); clear hb
  go_wp2_with fail
  refine (LXH.out.unquote (OK.out E.out) HQ.out hQs).mono ?_; rintro e w2 ⟨rfl, hb⟩; replace E := Lib.hid (E.out.trans (hb.mono E.out.size)); clear hb
  go_wp2_with fail
  go_loopw [31] (fun iv wr => ∃ i : Nat, iv = .int .i64 i ∧ i ≤ X.size ∧ Below w.heap.size w wr) (fun iv _ => X.size - (intOf iv).toNat)
  case atStart => exact ⟨0, rfl, Nat.zero_le _, E.out⟩
  case round =>
    obtain ⟨i, rfl, hi, hb⟩ := hrel
    clear E
    have E := Lib.hid hb
    clear hb
    rcases Nat.lt_or_ge i X.size with hlt | hge
    · obtain ⟨x, hx⟩ : ∃ x, x = (X[i]'hlt).toNat := ⟨_, rfl⟩
      have ex : ((X[i]'hlt).toNat : Int) = (x : Int) := by rw [hx]
      have hn : x ≠ 10 := NT.out i x (by rw [bs9_at X i hlt, hx])
      have d : ((x : Int) == 10) = false := by rw [beq_eq_false_iff_ne]; omega
      clear hx hn
      go_wp2_with fail
      go_roundw
      case rel => exact ⟨i + 1, by go_num, by omega, E.out⟩
      case measure => simp [intOf] <;> omega
    · go_wp2_with fail
      refine (HAW.out _ (OK.out E.out)).mono ?_; rintro e w3 ⟨rfl, hb⟩; replace E := Lib.hid (E.out.trans (hb.mono E.out.size)); clear hb
      go_wp2_with fail
      go_ret
      exact ⟨rfl, E.out⟩

end Go.Proofs.YtjkandnbjbfeiaaDoor

/-
  Layer 12: rows of words that are read; the law's own 'same'.
-/
namespace Go.Proofs.YtjkandnbjbfeiaaDoor
open Go.RowKit

theorem RdT.at_ {w : World} {A : Option Addr} {n c : Nat} {no : Int} {L : List Wd} (h : RdT w A n c no L) {k : Nat} (hk : k < n) : ∃ b o, A = some ⟨b, o, none⟩ ∧ n ≤ c ∧ c ≤ maxLen ∧ b < w.heap.size ∧ ∃ t, L[k]? = some t ∧
    w.cell? ⟨b, o + k * 4, none⟩ = some (.int .i64 (t.1 : Int)) ∧ w.cell? ⟨b, o + k * 4 + 1, none⟩ = some (.string (st9 t.2.1)) ∧ w.cell? ⟨b, o + k * 4 + 2, none⟩ = some (.int .i64 no) ∧ w.cell? ⟨b, o + k * 4 + 3, none⟩ = some (.int .i64 (t.2.2 : Int)) := by
  obtain ⟨h1, h2, h3, h | ⟨b, o, h4, h5, h6⟩⟩ := h
  · subst h; subst h1; exact absurd hk (Nat.not_lt_zero _)
  · have hkl : k < L.length := by omega
    have e := List.getElem?_eq_getElem hkl
    obtain ⟨r0, r1, r2, r3⟩ := rowT_get no L k _ e
    refine ⟨b, o, h4, h2, h3, h5, L[k], e, h6 _ _ r0, ?_, ?_, ?_⟩
    · rw [Nat.add_assoc]; exact h6 _ _ r1
    · rw [Nat.add_assoc]; exact h6 _ _ r2
    · rw [Nat.add_assoc]; exact h6 _ _ r3

end Go.Proofs.YtjkandnbjbfeiaaDoor

/-
  Layer 12: the walk of LexSays over what it asks of the program's own lex.
-/
namespace Go.Proofs.YtjkandnbjbfeiaaDoor
open Go.RowKit

theorem nxt_x {D N : List Nat → Bool} {l : List Nat} {k n : Nat} {x : List Nat} (h : nxt D N l = .inr (k, x, n)) : x.length ≤ n ∧ (k = 5 → x.length + 2 ≤ n) := by
  have ht : ∀ {m k' n' : Nat} {g : Bool} {y : List Nat}, k' ≠ 5 → m ≤ n' → tkn k' (y.take m) n' g = .inr (k, x, n) → x.length ≤ n ∧ (k = 5 → x.length + 2 ≤ n) := by
    intro m k' n' g y hk hm e
    obtain ⟨_, hp⟩ := tkn_ok e
    cases hp
    exact ⟨by rw [List.length_take]; omega, fun e => absurd e hk⟩
  cases l with
  | nil => rw [nxt] at h; cases h
  | cons c t =>
    rw [nxt] at h
    split at h
    · cases hq : uqg t with
      | inl y => rw [hq] at h; cases h
      | inr p =>
        obtain ⟨o, m⟩ := p
        rw [hq] at h
        cases h
        have := uqg_bound _ (Nat.le_refl _) hq
        exact ⟨by omega, fun _ => by omega⟩
    split at h
    · unfold tag12 at h
      exact ht (by split <;> decide) (Nat.le_succ _) h
    split at h
    · unfold num12 at h
      split at h
      · cases h; exact ⟨by rw [List.length_take]; omega, fun e => by cases e⟩
      · exact ht (by decide) (Nat.le_refl _) h
    split at h
    · unfold acc12 at h
      split at h
      · cases h; exact ⟨by rw [List.length_take]; omega, fun e => by cases e⟩
      · exact ht (by decide) (Nat.le_refl _) h
    split at h
    · unfold key12 at h
      split at h
      · exact ht (by decide) (Nat.le_succ _) h
      · exact ht (by decide) (Nat.le_refl _) h
    · exact ht (by decide) (Nat.le_refl _) h
theorem txt_len {k : Nat} {x : List Nat} {n : Nat} (h1 : 1 ≤ n) (h : x.length ≤ n ∧ (k = 5 → x.length + 2 ≤ n)) : (txt k x).length ≤ 2 * n := by
  unfold txt
  split
  · rename_i k5
    have := h.2 k5
    have := qt_len x
    omega
  · (repeat' split) <;> (try simp) <;> omega
/-- What is known of each word of a line. -/
theorem WD_all {D N : List Nat → Bool} (hD : DayOk D) : ∀ (f : Nat) {a : Nat} {l : List Nat} {ts : List Wd}, l.length ≤ f → WD D N a l = .inr ts → (∀ c ∈ l, c < 256) → (joinW ts).length ≤ 3 * l.length ∧ ts.length ≤ l.length ∧ ∀ t ∈ ts, (∀ c ∈ t.2.1, c < 256) ∧ t.2.1.length ≤ l.length := by
  intro f
  induction f with
  | zero =>
    intro a l ts hf h _
    rw [List.eq_nil_of_length_eq_zero (Nat.le_zero.1 hf), WD_stop (.inl rfl)] at h
    cases h
    exact ⟨Nat.zero_le _, Nat.zero_le _, fun t ht => by cases ht⟩
  | succ f ih =>
    intro a l ts hf h hl
    by_cases hs : Stop12 (l.drop (indl l))
    · rw [WD_stop hs] at h
      cases h
      exact ⟨Nat.zero_le _, Nat.zero_le _, fun t ht => by cases ht⟩
    · cases hn : nxt D N (l.drop (indl l)) with
      | inl e => rw [WD_err hs hn] at h; cases h
      | inr p =>
        obtain ⟨k, x, n⟩ := p
        rw [WD_ok hD hs hn] at h
        obtain ⟨g1, g2, _⟩ := nxt_back hD hn
        have g3 := nxt_x hn
        have g4 := nxt_lt hn (fun c hc => hl c (List.mem_of_mem_drop hc))
        have g5 := txt_len (k := k) g1 g3
        rw [List.length_drop] at g2
        cases hr : WD D N (a + indl l + n) ((l.drop (indl l)).drop n) with
        | inl p => rw [hr] at h; cases h
        | inr r =>
          rw [hr] at h
          obtain rfl : (k, x, a + indl l + 1) :: r = ts := Sum.inr.inj h
          obtain ⟨i1, i2, i3⟩ := ih (by rw [List.length_drop, List.length_drop]; omega) hr (fun c hc => hl c (List.mem_of_mem_drop (List.mem_of_mem_drop hc)))
          rw [List.length_drop, List.length_drop] at i1 i2
          refine ⟨?_, by rw [List.length_cons]; omega, fun t ht => ?_⟩
          · rw [joinW_cons, List.length_cons, List.length_append]
            show (txt k x).length + _ + 1 ≤ _
            omega
          · rcases List.mem_cons.1 ht with rfl | ht
            · exact ⟨g4, by show x.length ≤ _; omega⟩
            · obtain ⟨j1, j2⟩ := i3 t ht
              rw [List.length_drop, List.length_drop] at j2
              exact ⟨j1, by omega⟩
theorem q9L {f : FuncId} {args : Array Value} {w : World} {v : Value} (h : Calls Tryd.prog f args w (fun e w' => e = .returned v ∧ w' = w)) : Calls Tryd.prog f args w (Ret9 w v) :=
  h.mono fun e w' ⟨h1, h2⟩ => ⟨h1, by rw [h2]; exact Below.refl _ _⟩
/-- Words, or none and a fault: in one form. -/
def PW (W : World) (no : Int) (ts : List Wd) (f0 f1 f2 : Int) (e : Ending) (w' : World) : Prop := (∃ A c, e = .returned (.tuple #[.slice A ts.length c, .agg #[.int .i64 f0, .int .i64 f1, .int .i64 f2]]) ∧ RdT w' A ts.length c no ts) ∧ Below W.heap.size W w'
/-- How the two forms go together. -/
def FW (no : Int) (ts : List Wd) (f0 f1 f2 : Int) : (Nat × Nat) ⊕ List Wd → Prop
  | .inl (c, e) => ts = [] ∧ f0 = no ∧ f1 = (c : Int) ∧ f2 = (e : Int)
  | .inr r => ts = r ∧ f0 = 0 ∧ f1 = 0 ∧ f2 = 0
theorem pw_of {W : World} {no : Int} {r : (Nat × Nat) ⊕ List Wd} {ts : List Wd} {f0 f1 f2 : Int} (hf : FW no ts f0 f1 f2 r) {e : Ending} {w' : World} (h : RetW W no r e w') : PW W no ts f0 f1 f2 e w' := by
  cases r with
  | inl p =>
    obtain ⟨c, x⟩ := p
    obtain ⟨rfl, rfl, rfl, rfl⟩ := hf
    obtain ⟨h1, h2⟩ := h
    exact ⟨⟨none, 0, h1, rfl, Nat.le_refl _, Nat.zero_le _, .inl rfl⟩, h2⟩
  | inr r =>
    obtain ⟨rfl, rfl, rfl, rfl⟩ := hf
    exact h
theorem fw_ex (no : Int) (r : (Nat × Nat) ⊕ List Wd) : ∃ ts f0 f1 f2, FW no ts f0 f1 f2 r := by
  cases r with
  | inl p => obtain ⟨c, e⟩ := p; exact ⟨[], no, c, e, rfl, rfl, rfl, rfl⟩
  | inr r => exact ⟨r, 0, 0, 0, rfl, rfl, rfl, rfl⟩
theorem uqv_ex (s : ByteArray) : ∃ X n e, uqv (bs9 s) = (bs9 X, n, e) := by
  obtain ⟨l, hl⟩ : ∃ l, bs9 s = l := ⟨_, rfl⟩
  have hlt : ∀ c ∈ l, c < 256 := by rw [← hl]; exact bs9_lt s
  rw [hl]
  cases l with
  | nil => exact ⟨⟨#[]⟩, 0, 1, rfl⟩
  | cons c t =>
    by_cases h : c = 34
    · cases hq : uqg t with
      | inl e => exact ⟨⟨#[]⟩, 0, e, by rw [uqv, if_pos h, hq]; rfl⟩
      | inr p =>
        obtain ⟨o, n⟩ := p
        have ho := uqg_lt _ (Nat.le_refl _) hq (fun x hx => hlt x (List.mem_cons_of_mem _ hx))
        exact ⟨st9 o, n + 1, 0, by rw [uqv, if_pos h, hq, bs9_st9 ho]⟩
    · exact ⟨⟨#[]⟩, 0, 1, by rw [uqv, if_neg h]; rfl⟩
theorem nxt_txt_lt (k : Nat) {x : List Nat} (h : ∀ c ∈ x, c < 256) : ∀ c ∈ txt k x, c < 256 := by
  intro c hc
  unfold txt at hc
  split at hc
  · exact qt_lt h c hc
  split at hc
  · rcases List.mem_cons.1 hc with rfl | hc
    · decide
    · exact h c hc
  split at hc
  · rcases List.mem_cons.1 hc with rfl | hc
    · decide
    · exact h c hc
  split at hc
  · rcases List.mem_append.1 hc with hc | hc
    · exact h c hc
    · rw [List.mem_singleton.1 hc]; decide
  · exact h c hc
/-- What a loop over words carries: a row that is read, the box of the word at hand. -/
def Lp (w W : World) (A : Option Addr) (n c : Nat) (no : Int) (L : List Wd) (g : Nat) (x0 x1 x2 x3 : Value) : Prop := Below w.heap.size w W ∧ RdT W A n c no L ∧ Bx4 W g x0 x1 x2 x3
theorem Lp.on {w W W' : World} {A : Option Addr} {n c : Nat} {no : Int} {L : List Wd} {g : Nat} {x0 x1 x2 x3 : Value} (h : Lp w W A n c no L g x0 x1 x2 x3) (hb : Below W.heap.size W W') : Lp w W' A n c no L g x0 x1 x2 x3 := ⟨h.1.trans (hb.mono h.1.size), h.2.1.on hb, h.2.2.on hb⟩

end Go.Proofs.YtjkandnbjbfeiaaDoor

/-
  Layer 12: rows of whole numbers; the walk of LexBack over what it asks of the program's own lex.
-/
namespace Go.Proofs.YtjkandnbjbfeiaaDoor
open Go.RowKit

theorem joinW_app (a b : List Wd) : joinW (a ++ b) = joinW a ++ joinW b := List.flatMap_append
theorem joinW_take {ts : List Wd} {i : Nat} {t : Wd} (h : ts[i]? = some t) : joinW (ts.take (i + 1)) = joinW (ts.take i) ++ 32 :: txt t.1 t.2.1 := by
  rw [List.take_add_one, h, joinW_app]
  show _ ++ joinW [t] = _
  rw [joinW_cons]
  simp [joinW]
theorem joinW_le (ts : List Wd) (i : Nat) : (joinW (ts.take i)).length ≤ (joinW ts).length := by
  have h : joinW ts = joinW (ts.take i) ++ joinW (ts.drop i) := by rw [← joinW_app, List.take_append_drop]
  rw [h, List.length_append]; omega
theorem colsW_len : ∀ (ts : List Wd) (b : Nat), (colsW b ts).length = ts.length
  | [], _ => rfl
  | t :: r, b => by rw [colsW, List.length_cons, colsW_len r, List.length_cons]
theorem colsW_get : ∀ (ts : List Wd) (b i : Nat) (t : Wd), ts[i]? = some t → (colsW b ts)[i]? = some (t.1, t.2.1, b + (joinW (ts.take i)).length + 2)
  | [], _, _, _, h => by simp at h
  | u :: r, b, 0, t, h => by
    obtain rfl := Option.some.inj h
    rfl
  | u :: r, b, i + 1, t, h => by
    have := colsW_get r (b + 1 + (txt u.1 u.2.1).length) i t h
    rw [colsW, List.getElem?_cons_succ, this, List.take_succ_cons, joinW_cons, List.length_cons, List.length_append]
    rw [show b + 1 + (txt u.1 u.2.1).length + (joinW (List.take i r)).length + 2 = b + ((txt u.1 u.2.1).length + (joinW (List.take i r)).length + 1) + 2 by omega]
/-- Where each of the first words is put. -/
def colI (ts : List Wd) (i : Nat) : List Nat := (List.range i).map fun j => (joinW (ts.take j)).length + 2
theorem colI_push (ts : List Wd) (i : Nat) : colI ts (i + 1) = colI ts i ++ [(joinW (ts.take i)).length + 2] := by unfold colI; rw [List.range_succ, List.map_append]; rfl
theorem colI_len (ts : List Wd) (i : Nat) : (colI ts i).length = i := by unfold colI; rw [List.length_map, List.length_range]
theorem colI_get (ts : List Wd) {i n : Nat} (h : i < n) : (colI ts n)[i]? = some ((joinW (ts.take i)).length + 2) := by
  unfold colI
  rw [List.getElem?_map, List.getElem?_range h]; rfl
/-- Whole numbers as cells. -/
def rowI (L : List Nat) : List Value := L.map fun (c : Nat) => Value.int .i64 (c : Int)
theorem rowI_push (L : List Nat) (c : Nat) : rowI (L ++ [c]) = rowI L ++ [.int .i64 (c : Int)] := by unfold rowI; rw [List.map_append]; rfl
theorem rowI_get {L : List Nat} {k c : Nat} (h : L[k]? = some c) : (rowI L)[k]? = some (.int .i64 (c : Int)) := by unfold rowI; rw [List.getElem?_map, h]; rfl
theorem info_intI : (Tryd.prog.info? 3).map (fun i => (i.zero, i.size, i.bytes)) = some (some (.int .i64 0), 1, 8) := by kernel_rfl
theorem zcellsI : (Value.int .i64 0).cells.size = 1 := by simp [Value.cells]
/-- A row of whole numbers in memory of the call's own. -/
def OwnI (w : World) (base : Nat) (v : Value) (L : List Nat) : Prop := w.ownsRow base 3 1 v L.length (rowI L)
/-- A row of whole numbers that is read. -/
def RdI (w : World) (A : Option Addr) (n c : Nat) (L : List Nat) : Prop := n = L.length ∧ n ≤ c ∧ c ≤ maxLen ∧ (L = [] ∨ ∃ b o, A = some ⟨b, o, none⟩ ∧ b < w.heap.size ∧ ∀ j u, (rowI L)[j]? = some u → w.cell? ⟨b, o + j, none⟩ = some u)
section
variable {w w' : World} {base : Nat} {v : Value} {L : List Nat}
theorem OwnI.start (w : World) (base : Nat) : OwnI w base (.slice none 0 0) [] := World.ownsRow_nil _ _ _ _
theorem OwnI.on (h : OwnI w base v L) (hb : Below w.heap.size w w') : OwnI w' base v L := World.ownsRow.kept h (grown10 hb) (by cases hv : v.ownBlock <;> simp)
theorem OwnI.slen (h : OwnI w base v L) : ∃ A c, v = .slice A L.length c := by
  rcases h.2 with ⟨rfl, h0⟩ | ⟨g, cap, cur, rfl, _⟩
  · have : L = [] := List.eq_nil_of_length_eq_zero h0
    subst this
    exact ⟨none, 0, rfl⟩
  · exact ⟨_, _, rfl⟩
theorem RdI.on {A : Option Addr} {n c : Nat} (h : RdI w A n c L) (hb : Below w.heap.size w w') : RdI w' A n c L := by
  obtain ⟨h1, h2, h3, h | ⟨b, o, h4, h5, h6⟩⟩ := h
  · exact ⟨h1, h2, h3, .inl h⟩
  · exact ⟨h1, h2, h3, .inr ⟨b, o, h4, Nat.lt_of_lt_of_le h5 hb.size, fun j u hu => (hb.cell (p := ⟨b, o + j, none⟩) h5).trans (h6 j u hu)⟩⟩
theorem OwnI.rd (h : OwnI w base v L) : ∃ A c, v = .slice A L.length c ∧ RdI w A L.length c L := by
  have hlt := World.ownsRow.lt h
  have hc := fun g e => World.ownsRow.cells h (g := g) e
  rcases h.2 with ⟨rfl, h0⟩ | ⟨g, cap, cur, rfl, hb, hg, h3, h4, _⟩
  · have : L = [] := List.eq_nil_of_length_eq_zero h0
    subst this
    exact ⟨none, 0, rfl, rfl, Nat.le_refl _, Nat.zero_le _, .inl rfl⟩
  · refine ⟨_, _, rfl, rfl, h3, h4, .inr ⟨g, 0, rfl, (hlt g rfl).2, fun j u hu => ?_⟩⟩
    have := hc g rfl j u hu
    rwa [Addr.add_lit] at this
theorem RdI.at_ {A : Option Addr} {n c : Nat} (h : RdI w A n c L) {k x : Nat} (hk : L[k]? = some x) : ∃ b o, A = some ⟨b, o, none⟩ ∧ n ≤ c ∧ c ≤ maxLen ∧ b < w.heap.size ∧ w.cell? ⟨b, o + k, none⟩ = some (.int .i64 (x : Int)) := by
  obtain ⟨h1, h2, h3, h | ⟨b, o, h4, h5, h6⟩⟩ := h
  · subst h; simp at hk
  · exact ⟨b, o, h4, h2, h3, h5, h6 k _ (rowI_get hk)⟩
theorem int_new (x : Value) (ty : TypeId) : ∀ j u, ([x] : List Value)[j]? = some u → (w.alloc (.cells #[x] ty)).cell? ((⟨w.heap.size, 0, none⟩ : Addr).add j) = some u := by
  intro j u hu
  rw [Addr.add_lit, cell_of_row _ w.heap.size _ _ ty (0, 0) (heap_alloc_new w _), Nat.zero_add, ← Array.getElem?_toList]
  simpa using hu
theorem Bx4.grown {v v' : World} {g : Nat} {x0 x1 x2 x3 : Value} {row : Option Nat} (h : Bx4 v g x0 x1 x2 x3) (hg : v.grownBy v' row) (hne : some g ≠ row) : Bx4 v' g x0 x1 x2 x3 :=
  ⟨(hg.cell_far ⟨g, 0, none⟩ h.lt hne).trans h.c0, (hg.cell_far ⟨g, 1, none⟩ h.lt hne).trans h.c1, (hg.cell_far ⟨g, 2, none⟩ h.lt hne).trans h.c2, (hg.cell_far ⟨g, 3, none⟩ h.lt hne).trans h.c3,
   (hg.frozen_far ⟨g, 0, none⟩ h.lt hne).trans h.f0, (hg.frozen_far ⟨g, 1, none⟩ h.lt hne).trans h.f1, (hg.frozen_far ⟨g, 2, none⟩ h.lt hne).trans h.f2, (hg.frozen_far ⟨g, 3, none⟩ h.lt hne).trans h.f3, Nat.lt_of_lt_of_le h.lt hg.size⟩
theorem OwnI.far {g : Nat} (h : OwnI w base v L) (hg : g = w.heap.size) : some g ≠ v.ownBlock := fun e => by
  have := (World.ownsRow.lt h g e.symm).2; omega
theorem belowI {w0 w w' : World} {v : Value} {l : List Nat} (h : Below w0.heap.size w0 w) (ho : OwnI w w0.heap.size v l) (hg : w.grownBy w' v.ownBlock) : Below w0.heap.size w0 w' :=
  h.grown hg h.size (fun g e => (World.ownsRow.lt ho g e).1)
end

set_option maxHeartbeats 16000000 in
set_option maxRecDepth 100000 in
theorem back12_law {D N : List Nat → Bool} {ok : World → Prop} (hk : Okw ok) (hD : DayOk D) (LX : Lexes D N ok) (haw : Awk ok) (no : Int) (s : ByteArray) (w : World) (hok : ok w) : Calls Tryd.prog 3 #[.agg #[.int .i64 no, .string s]] w (Ret9 w (.bool true)) := by
  obtain ⟨i0, hi0, hz0, hz1, hz2⟩ := info_parts11 info_intI
  have OK : Hid (∀ {W : World}, Below w.heap.size w W → ok W) := fun hb => hk hok hb
  have HAW := Lib.hid haw
  have E : Hid (Below w.heap.size w (w.alloc (.cells #[.int .i64 no, .string s] 23))) := (Below.refl _ _).alloc (Nat.le_refl _) _
  have LB : Hid (Bx2 (w.alloc (.cells #[.int .i64 no, .string s] 23)) w.heap.size (.int .i64 no) (.string s)) := Bx2.newAt _ _ _ _ rfl
  rcases Nat.lt_or_ge 300 s.size with hs | hs
  · have ds : decide ((300 : Int) < (s.size : Int)) = true := decide_eq_true (by omega)
    go_enter Tryd.func3, Tryd.ntmps3
    go_wp2_with fail
    refine (HAW.out _ (OK.out E.out)).mono ?_; rintro e w1 ⟨rfl, hb⟩; replace E := Lib.hid (E.out.trans (hb.mono E.out.size)); clear hb
    go_wp2_with fail
    go_ret
    exact ⟨rfl, E.out⟩
  have ds : decide ((300 : Int) < (s.size : Int)) = false := decide_eq_false (by omega)
  have ms : s.size ≤ 1000 := by omega
  cases hr : WD D N 0 (bs9 s) with
  | inl p =>
    obtain ⟨c, e0⟩ := p
    obtain ⟨hc1, hc2, he0⟩ := WD_fault hD _ (Nat.le_refl _) hr
    rw [bs9_len] at hc2
    have de : ((e0 : Int) != 0) = true := by rw [bne_iff_ne]; omega
    have dc1 : decide ((1 : Int) ≤ (c : Int)) = true := decide_eq_true (by omega)
    have dc2 : c ≤ s.size := by omega
    have W1 : Hid (∀ W, ok W → Calls Tryd.prog 6 #[.agg #[.int .i64 no, .string s]] W (RetW W no (.inl (c, e0)))) := fun W hW => by have := LX.words no s hW ms; rw [hr] at this; exact this
    clear LX haw hk hok hr hD he0 hc1 hc2
    go_enter Tryd.func3, Tryd.ntmps3
    go_wp2_with fail
    refine (W1.out _ (OK.out E.out)).mono ?_; rintro e v1 ⟨rfl, hb⟩
    replace E := Lib.hid (E.out.trans (hb.mono E.out.size))
    replace LB := Lib.hid (LB.out.on hb)
    clear hb
    have hb := (Below.refl v1.heap.size v1).alloc (Nat.le_refl _) (.cells #[.int .i64 no, .int .i64 (c : Int), .int .i64 (e0 : Int)] 30)
    replace E := Lib.hid (E.out.trans (hb.mono E.out.size))
    replace LB := Lib.hid (LB.out.on hb)
    clear hb
    have F1 := Lib.hid (Bx3.newAt v1 (.int .i64 no) (.int .i64 (c : Int)) (.int .i64 (e0 : Int)) 30 rfl)
    obtain ⟨q0, q1, qf0, qf1, qlt⟩ := LB.out
    obtain ⟨a0, a1, a2, _, _, _, _⟩ := F1.out
    go_wp2_with fail
    refine (HAW.out _ (OK.out E.out)).mono ?_; rintro e w1 ⟨rfl, hb⟩; replace E := Lib.hid (E.out.trans (hb.mono E.out.size)); clear hb
    go_wp2_with fail
    go_ret
    exact ⟨rfl, E.out⟩
  | inr ts =>
    obtain ⟨n, hn⟩ : ∃ n, ts.length = n := ⟨_, rfl⟩
    have W1 : Hid (∀ W, ok W → Calls Tryd.prog 6 #[.agg #[.int .i64 no, .string s]] W (RetW W no (.inr ts))) := fun W hW => by have := LX.words no s hW ms; rw [hr] at this; exact this
    obtain ⟨hj, hl, hall⟩ := WD_all hD _ (Nat.le_refl _) hr (bs9_lt s)
    have hback := WD_back hD _ (Nat.le_refl _) hr 0
    rw [bs9_len] at hj hl
    have W2 : Hid (∀ (X : ByteArray) W, bs9 X = joinW ts → ok W → Calls Tryd.prog 6 #[.agg #[.int .i64 no, .string X]] W (RetW W no (.inr (colsW 0 ts)))) := fun X W hX hW => by
      have := LX.words no X hW (by rw [← bs9_len X, hX]; omega)
      rw [hX, hback] at this; exact this
    have ALL : Hid (∀ q ∈ ts, (∀ c ∈ q.2.1, c < 256) ∧ q.2.1.length ≤ s.size) := by rw [← bs9_len s]; exact hall
    have LEN : Hid (∀ i, (joinW (ts.take i)).length ≤ 900) := fun i => by have := joinW_le ts i; omega
    have HNL := Lib.hid hn
    have hn1 : n ≤ 300 := by omega
    have LXH := Lib.hid LX
    clear LX haw hk hok hr hD hj hl hall hback hn
    go_enter Tryd.func3, Tryd.ntmps3
    go_wp2_with fail
    refine (W1.out _ (OK.out E.out)).mono ?_; rintro e v1 ⟨⟨A, c, rfl, hr⟩, hb⟩
    rw [HNL.out] at hr ⊢
    replace E := Lib.hid (E.out.trans (hb.mono E.out.size))
    replace LB := Lib.hid (LB.out.on hb)
    have R1 := Lib.hid hr
    clear hb hr
    have hb := (Below.refl v1.heap.size v1).alloc (Nat.le_refl _) (.cells #[.int .i64 0, .int .i64 0, .int .i64 0] 30)
    replace E := Lib.hid (E.out.trans (hb.mono E.out.size))
    replace LB := Lib.hid (LB.out.on hb)
    replace R1 := Lib.hid (R1.out.on hb)
    clear hb
    have F1 := Lib.hid (Bx3.newAt v1 (.int .i64 0) (.int .i64 0) (.int .i64 0) 30 rfl)
    obtain ⟨q0, q1, qf0, qf1, qlt⟩ := LB.out
    obtain ⟨a0, a1, a2, _, _, _, _⟩ := F1.out
    go_wp2_with fail
    clear q0 q1 qf0 qf1 qlt a0 a1 a2 F1
    generalize hV : World.alloc v1 _ = V at E LB R1 ⊢
    clear hV
    go_loopw [5, 6, 56] (fun sv cv iv wr => ∃ (i : Nat) (X : ByteArray), iv = .int .i64 i ∧ i ≤ n ∧ sv = .string X ∧ bs9 X = joinW (ts.take i) ∧ OwnI wr V.heap.size cv (colI ts i) ∧ Below V.heap.size V wr) (fun _ _ iv _ => n - (intOf iv).toNat)
    case atStart => exact ⟨0, ⟨#[]⟩, rfl, Nat.zero_le _, rfl, rfl, OwnI.start _ _, Below.refl _ _⟩
    case round =>
      obtain ⟨i, X, rfl, hi, rfl, hx, hown, hb⟩ := hrel
      have XB := Lib.hid hx
      have OW := Lib.hid hown
      have HB := Lib.hid hb
      clear hb hx hown
      have mX : X.size ≤ 900 := by rw [← bs9_len X, XB.out]; exact LEN.out i
      obtain ⟨A2, c2, hcv⟩ := OW.out.slen
      rw [colI_len] at hcv
      subst hcv
      have hn9 : n ≤ 9223372036854775807 := by omega
      rcases Nat.lt_or_ge i n with hlt | hge
      · obtain ⟨p1, o1, hA, q1, q2, q3, q, q4, a0, a1, a2, a3⟩ := (R1.out.on HB.out).at_ (k := i) hlt
        obtain ⟨ha1, ha2⟩ := ALL.out q (List.mem_of_getElem? q4)
        obtain ⟨T, hT⟩ : ∃ T, st9 q.2.1 = T := ⟨_, rfl⟩
        have hTb : bs9 T = q.2.1 := by rw [← hT]; exact bs9_st9 ha1
        have mT : T.size ≤ 1000 := by rw [← bs9_len T, hTb]; omega
        have hxx := nxt_txt_lt q.1 (x := bs9 T) (bs9_lt T)
        obtain ⟨Z, hZ⟩ : ∃ Z, txt q.1 (bs9 T) = bs9 Z := ⟨_, (bs9_st9 hxx).symm⟩
        have hJ := joinW_take q4
        rw [← hTb, hZ] at hJ
        have TX := Lib.hid hZ
        rw [hT] at a1
        obtain ⟨k, hk1⟩ : ∃ k : Nat, q.1 = k := ⟨_, rfl⟩
        obtain ⟨col, hcol⟩ : ∃ c : Int, (q.2.2 : Int) = c := ⟨_, rfl⟩
        rw [hk1] at a0 TX
        rw [hcol] at a3
        obtain ⟨X1, hX1⟩ : ∃ X1, X ++ ⟨#[32]⟩ = X1 := ⟨_, rfl⟩
        have hadd : ∀ w, (Op.stringOp .add X ⟨#[32]⟩).run Tryd.prog w = .ok (.string X1) w := fun w => add9 (by rw [← bs9_append, hX1]) (by show _ + 1 ≤ _; omega) w
        have hX1s : X1.size = X.size + 1 := by rw [← hX1, ByteArray.size_append]; rfl
        obtain ⟨X2, hX2⟩ : ∃ X2, X1 ++ Z = X2 := ⟨_, rfl⟩
        have hX2b : bs9 X2 = joinW (ts.take (i + 1)) := by rw [← hX2, bs9_append, ← hX1, bs9_append, XB.out, hJ]; simp [bs9]
        have mX2 : X1.size + Z.size ≤ 900 := by rw [← ByteArray.size_append, hX2, ← bs9_len X2, hX2b]; exact LEN.out _
        have hadd2 : ∀ w, (Op.stringOp .add X1 Z).run Tryd.prog w = .ok (.string X2) w := fun w => add9 (by rw [← bs9_append, hX2]) (by omega) w
        have XB2 := Lib.hid hX2b
        obtain ⟨m, hm⟩ : ∃ m, X1.size + 1 = m := ⟨_, rfl⟩
        have em : (X1.size : Int) + 1 = (m : Int) := by omega
        have CI : Hid (rowI (colI ts (i + 1)) = rowI (colI ts i) ++ [.int .i64 (m : Int)]) := by
          show _ = _
          rw [colI_push, rowI_push, ← XB.out, bs9_len, show X.size + 2 = m by omega]
        subst hA
        clear q2 q4 ha1 ha2 hTb hxx hZ hT hk1 hcol hX1 hX1s hX2 hX2b hJ hm
        obtain ⟨W8, hW8⟩ : ∃ v, wr.alloc (.cells #[.int .i64 (k : Int), .string T, .int .i64 no, .int .i64 col] 35) = v := ⟨_, rfl⟩
        have B8 : Hid (Below wr.heap.size wr W8) := by show Below _ _ _; rw [← hW8]; exact (Below.refl _ _).alloc (Nat.le_refl _) _
        have K8 : Hid (Bx4 W8 wr.heap.size (.int .i64 (k : Int)) (.string T) (.int .i64 no) (.int .i64 col)) := by show Bx4 _ _ _ _ _ _; rw [← hW8]; exact Bx4.newAt _ _ _ _ _ _ rfl
        obtain ⟨W9, hW9⟩ : ∃ v, World.alloc W8 (.cells #[.int .i64 (m : Int)] 3) = v := ⟨_, rfl⟩
        have B9 : Hid (Below W8.heap.size W8 W9) := by show Below _ _ _; rw [← hW9]; exact (Below.refl _ _).alloc (Nat.le_refl _) _
        have BV9 := Lib.hid ((HB.out.trans (B8.out.mono HB.out.size)).trans (B9.out.mono (Nat.le_trans HB.out.size B8.out.size)))
        have OW9 := Lib.hid ((OW.out.on B8.out).on B9.out)
        have K9 := Lib.hid (K8.out.on B9.out)
        have NEW : Hid (∀ j u, ([.int .i64 (m : Int)] : List Value)[j]? = some u → W9.cell? ((⟨W8.heap.size, 0, none⟩ : Addr).add j) = some u) := by
          show ∀ j u, _
          rw [← hW9]; exact int_new _ _
        have OWR : Hid (W9.ownsRow V.heap.size 3 1 (.slice A2 i c2) i (rowI (colI ts i))) := by
          have := OW9.out
          unfold OwnI at this
          rw [colI_len] at this
          exact this
        have FAR : Hid (some wr.heap.size ≠ (Value.slice A2 i c2).ownBlock) := OW.out.far rfl
        have hs8 : W8.heap.size = wr.heap.size + 1 := by rw [← hW8]; simp
        rw [hs8] at NEW
        have hi3 : i ≤ 300 := by omega
        obtain ⟨b0, b1, b2, b3, bf0, bf1, bf2, bf3, blt⟩ := K8.out
        go_wp2_with (at_builtin; (try rw [hW9]); refine wpList_append_lies _ rfl (.tmp 62) (.tmp 66) 33 rfl V.heap.size 3 i0 (.int .i64 0) 1 8 Tryd.underlying33 hi0 hz0 hz1 hz2 zcellsI (by decide) (.slice A2 i c2) i (rowI (colI ts i)) rfl OWR.out ⟨wr.heap.size + 1, 0, none⟩ 1 1 [.int .i64 (m : Int)] rfl rfl NEW.out (by intro u hu; simp at hu; rcases hu with rfl; rfl) (by decide) (by unfold maxLen; omega) (by omega) BV9.out.size W9.heap.size rfl ?_; intro g4 cap4 w11 hown4 hgr4 hat4 hlt4; have OWB : Hid (OwnI w11 V.heap.size (.slice (some ⟨g4, 0, none⟩) (i + 1) cap4) (colI ts (i + 1))) := (by show OwnI _ _ _ _; unfold OwnI; rw [colI_len, CI.out]; exact hown4); have BVB := Lib.hid (belowI BV9.out OW9.out hgr4); have KB := Lib.hid (K9.out.grown hgr4 FAR.out); clear hown4 hgr4 hat4 hlt4 b0 b1 b2 b3 bf0 bf1 bf2 bf3 blt OWR FAR OW9 K9 BV9; obtain ⟨b0, b1, b2, b3, bf0, bf1, bf2, bf3, blt⟩ := KB.out)
        refine (LXH.out.text no col (OK.out (E.out.trans (BVB.out.mono E.out.size))) TX.out mT).mono ?_; rintro e w4 ⟨rfl, hb⟩
        replace BVB := Lib.hid (BVB.out.trans (hb.mono BVB.out.size))
        replace OWB := Lib.hid (OWB.out.on hb)
        clear hb b0 b1 b2 b3 bf0 bf1 bf2 bf3 blt
        go_wp2_with fail
        go_roundw
        case rel => exact ⟨i + 1, X2, by go_num, by omega, rfl, XB2.out, OWB.out, BVB.out⟩
        case measure => simp [intOf] <;> omega
      · have hX' : bs9 X = joinW ts := by rw [XB.out, show i = n by omega, ← HNL.out, List.take_length]
        obtain ⟨AI, cI, hv, hri⟩ := OW.out.rd
        rw [colI_len] at hv hri
        injection hv with v1' v2' v3'
        subst v1'; subst v3'
        obtain rfl : i = n := by omega
        have RI := Lib.hid hri
        replace E := Lib.hid (E.out.trans (HB.out.mono E.out.size))
        replace LB := Lib.hid (LB.out.on HB.out)
        replace R1 := Lib.hid (R1.out.on HB.out)
        clear HB OW hri LXH
        obtain ⟨q0, q1, qf0, qf1, qlt⟩ := LB.out
        go_wp2_with fail
        refine (W2.out X _ hX' (OK.out E.out)).mono ?_; rintro e v2 ⟨⟨B, cb, rfl, hr2⟩, hb⟩
        rw [colsW_len, HNL.out] at hr2 ⊢
        replace E := Lib.hid (E.out.trans (hb.mono E.out.size))
        replace LB := Lib.hid (LB.out.on hb)
        replace R1 := Lib.hid (R1.out.on hb)
        replace RI := Lib.hid (RI.out.on hb)
        have R2 := Lib.hid hr2
        clear hb hr2 q0 q1 qf0 qf1 qlt
        have hb := (Below.refl v2.heap.size v2).alloc (Nat.le_refl _) (.cells #[.int .i64 0, .int .i64 0, .int .i64 0] 30)
        replace E := Lib.hid (E.out.trans (hb.mono E.out.size))
        replace LB := Lib.hid (LB.out.on hb)
        replace R1 := Lib.hid (R1.out.on hb)
        replace RI := Lib.hid (RI.out.on hb)
        replace R2 := Lib.hid (R2.out.on hb)
        clear hb
        have F1 := Lib.hid (Bx3.newAt v2 (.int .i64 0) (.int .i64 0) (.int .i64 0) 30 rfl)
        obtain ⟨a0, a1, a2, _, _, _, _⟩ := F1.out
        go_wp2_with fail
        clear a0 a1 a2 F1
        generalize hZ : World.alloc v2 _ = Z at E LB R1 R2 RI ⊢
        clear hZ
        go_loopw [93] (fun iv wq => ∃ j : Nat, iv = .int .i64 j ∧ j ≤ i ∧ Below Z.heap.size Z wq) (fun iv _ => i - (intOf iv).toNat)
        case atStart => exact ⟨0, rfl, Nat.zero_le _, Below.refl _ _⟩
        case round =>
          obtain ⟨j, rfl, hj, hb⟩ := hrel
          have HB := Lib.hid hb
          clear hb
          have hi9 : i ≤ 9223372036854775807 := by omega
          rcases Nat.lt_or_ge j i with hlt | hge
          · obtain ⟨p1, o1, hA1, y1, y2, y3, t1, y4, a0, a1, a2, a3⟩ := (R1.out.on HB.out).at_ (k := j) hlt
            obtain ⟨p2, o2, hA2, z1, z2, z3, t2, z4, b0, b1, b2, b3⟩ := (R2.out.on HB.out).at_ (k := j) hlt
            obtain ⟨p3, o3, hA3, x1, x2, x3, c0⟩ := (RI.out.on HB.out).at_ (colI_get ts hlt)
            have z5 := colsW_get ts 0 j t1 y4
            rw [z4] at z5
            obtain rfl := Option.some.inj z5
            rw [Nat.zero_add] at b3
            subst hA1; subst hA2; subst hA3
            generalize st9 t1.2.1 = T at a1 b1
            generalize (t1.1 : Int) = k0 at a0 b0
            generalize (t1.2.2 : Int) = k3 at a3
            generalize (((joinW (ts.take j)).length + 2 : Nat) : Int) = k4 at b3 c0
            clear y2 y4 z2 z4 z5 x2
            obtain ⟨q0, q1, qf0, qf1, qlt⟩ := LB.out.on HB.out
            go_wp2_with fail
            go_quiet (fail)
            go_wp2_with fail
            go_roundw
            case rel => exact ⟨j + 1, by go_num, by omega, HB.out.trans ((below_drewN _ _).mono HB.out.size)⟩
            case measure => simp [intOf] <;> omega
          · go_wp2_with fail
            refine (HAW.out _ (OK.out (E.out.trans (HB.out.mono E.out.size)))).mono ?_; rintro e w1 ⟨rfl, hb⟩; replace E := Lib.hid ((E.out.trans (HB.out.mono E.out.size)).trans (hb.mono (E.out.trans (HB.out.mono E.out.size)).size)); clear hb
            go_wp2_with fail
            go_ret
            exact ⟨rfl, E.out⟩

end Go.Proofs.YtjkandnbjbfeiaaDoor

/-
  Layer 12: the examples of awake over what they ask of the program's own lex.
-/
namespace Go.Proofs.YtjkandnbjbfeiaaDoor
open Go.RowKit

theorem WD_step {D N : List Nat → Bool} (hD : DayOk D) {a k n i c : Nat} {x l m r : List Nat} {ts : List Wd} (hi : indl l = i) (hm : l.drop i = m) (hs : ¬ Stop12 m) (hn : nxt D N m = .inr (k, x, n)) (hr : m.drop n = r) (hc : a + i + 1 = c) (hw : WD D N (a + i + n) r = .inr ts) : WD D N a l = .inr ((k, x, c) :: ts) := by
  subst hi; subst hm; subst hr; subst hc
  rw [WD_ok hD hs hn, hw]; rfl
def awL1 : List Nat := [50, 48, 50, 52, 45, 48, 49, 45, 48, 50, 32, 42, 32, 34, 97, 92, 34, 98, 34, 32, 35, 116, 32, 94, 108, 32, 65, 115, 115, 101, 116, 115, 58, 66, 97, 110, 107, 32, 45, 49, 44, 48, 48, 48, 46, 53, 32, 85, 83, 68, 32, 123, 123, 32, 107, 101, 121, 58, 32, 59, 32, 120]
def awW1 : List Wd := [(1, [50, 48, 50, 52, 45, 48, 49, 45, 48, 50], 1), (10, [42], 12), (5, [97, 34, 98], 14), (6, [116], 21), (7, [108], 24), (2, [65, 115, 115, 101, 116, 115, 58, 66, 97, 110, 107], 27), (10, [45], 39), (4, [49, 44, 48, 48, 48, 46, 53], 40), (3, [85, 83, 68], 48), (10, [123, 123], 52), (9, [107, 101, 121], 55)]
theorem wd_aw1 {D N : List Nat → Bool} (hD : DayOk D) (h1 : D [50, 48, 50, 52, 45, 48, 49, 45, 48, 50] = true) (h2 : N [49, 44, 48, 48, 48, 46, 53] = true) : WD D N 0 awL1 = .inr awW1 := by
  refine WD_step hD (a := 0) (i := 0) (n := 10) (m := [50, 48, 50, 52, 45, 48, 49, 45, 48, 50, 32, 42, 32, 34, 97, 92, 34, 98, 34, 32, 35, 116, 32, 94, 108, 32, 65, 115, 115, 101, 116, 115, 58, 66, 97, 110, 107, 32, 45, 49, 44, 48, 48, 48, 46, 53, 32, 85, 83, 68, 32, 123, 123, 32, 107, 101, 121, 58, 32, 59, 32, 120]) (r := [32, 42, 32, 34, 97, 92, 34, 98, 34, 32, 35, 116, 32, 94, 108, 32, 65, 115, 115, 101, 116, 115, 58, 66, 97, 110, 107, 32, 45, 49, 44, 48, 48, 48, 46, 53, 32, 85, 83, 68, 32, 123, 123, 32, 107, 101, 121, 58, 32, 59, 32, 120]) rfl rfl (by decide) (by show num12 D N _ = _; unfold num12; rw [if_pos ⟨by decide, h1, by decide⟩]; rfl) rfl rfl ?_
  refine WD_step hD (a := 10) (i := 1) (n := 1) (m := [42, 32, 34, 97, 92, 34, 98, 34, 32, 35, 116, 32, 94, 108, 32, 65, 115, 115, 101, 116, 115, 58, 66, 97, 110, 107, 32, 45, 49, 44, 48, 48, 48, 46, 53, 32, 85, 83, 68, 32, 123, 123, 32, 107, 101, 121, 58, 32, 59, 32, 120]) (r := [32, 34, 97, 92, 34, 98, 34, 32, 35, 116, 32, 94, 108, 32, 65, 115, 115, 101, 116, 115, 58, 66, 97, 110, 107, 32, 45, 49, 44, 48, 48, 48, 46, 53, 32, 85, 83, 68, 32, 123, 123, 32, 107, 101, 121, 58, 32, 59, 32, 120]) rfl rfl (by decide) (by kernel_rfl) rfl rfl ?_
  refine WD_step hD (a := 12) (i := 1) (n := 6) (m := [34, 97, 92, 34, 98, 34, 32, 35, 116, 32, 94, 108, 32, 65, 115, 115, 101, 116, 115, 58, 66, 97, 110, 107, 32, 45, 49, 44, 48, 48, 48, 46, 53, 32, 85, 83, 68, 32, 123, 123, 32, 107, 101, 121, 58, 32, 59, 32, 120]) (r := [32, 35, 116, 32, 94, 108, 32, 65, 115, 115, 101, 116, 115, 58, 66, 97, 110, 107, 32, 45, 49, 44, 48, 48, 48, 46, 53, 32, 85, 83, 68, 32, 123, 123, 32, 107, 101, 121, 58, 32, 59, 32, 120]) rfl rfl (by decide) (by kernel_rfl) rfl rfl ?_
  refine WD_step hD (a := 19) (i := 1) (n := 2) (m := [35, 116, 32, 94, 108, 32, 65, 115, 115, 101, 116, 115, 58, 66, 97, 110, 107, 32, 45, 49, 44, 48, 48, 48, 46, 53, 32, 85, 83, 68, 32, 123, 123, 32, 107, 101, 121, 58, 32, 59, 32, 120]) (r := [32, 94, 108, 32, 65, 115, 115, 101, 116, 115, 58, 66, 97, 110, 107, 32, 45, 49, 44, 48, 48, 48, 46, 53, 32, 85, 83, 68, 32, 123, 123, 32, 107, 101, 121, 58, 32, 59, 32, 120]) rfl rfl (by decide) (by kernel_rfl) rfl rfl ?_
  refine WD_step hD (a := 22) (i := 1) (n := 2) (m := [94, 108, 32, 65, 115, 115, 101, 116, 115, 58, 66, 97, 110, 107, 32, 45, 49, 44, 48, 48, 48, 46, 53, 32, 85, 83, 68, 32, 123, 123, 32, 107, 101, 121, 58, 32, 59, 32, 120]) (r := [32, 65, 115, 115, 101, 116, 115, 58, 66, 97, 110, 107, 32, 45, 49, 44, 48, 48, 48, 46, 53, 32, 85, 83, 68, 32, 123, 123, 32, 107, 101, 121, 58, 32, 59, 32, 120]) rfl rfl (by decide) (by kernel_rfl) rfl rfl ?_
  refine WD_step hD (a := 25) (i := 1) (n := 11) (m := [65, 115, 115, 101, 116, 115, 58, 66, 97, 110, 107, 32, 45, 49, 44, 48, 48, 48, 46, 53, 32, 85, 83, 68, 32, 123, 123, 32, 107, 101, 121, 58, 32, 59, 32, 120]) (r := [32, 45, 49, 44, 48, 48, 48, 46, 53, 32, 85, 83, 68, 32, 123, 123, 32, 107, 101, 121, 58, 32, 59, 32, 120]) rfl rfl (by decide) (by kernel_rfl) rfl rfl ?_
  refine WD_step hD (a := 37) (i := 1) (n := 1) (m := [45, 49, 44, 48, 48, 48, 46, 53, 32, 85, 83, 68, 32, 123, 123, 32, 107, 101, 121, 58, 32, 59, 32, 120]) (r := [49, 44, 48, 48, 48, 46, 53, 32, 85, 83, 68, 32, 123, 123, 32, 107, 101, 121, 58, 32, 59, 32, 120]) rfl rfl (by decide) (by kernel_rfl) rfl rfl ?_
  refine WD_step hD (a := 39) (i := 0) (n := 7) (m := [49, 44, 48, 48, 48, 46, 53, 32, 85, 83, 68, 32, 123, 123, 32, 107, 101, 121, 58, 32, 59, 32, 120]) (r := [32, 85, 83, 68, 32, 123, 123, 32, 107, 101, 121, 58, 32, 59, 32, 120]) rfl rfl (by decide) (by show num12 D N _ = _; unfold num12; rw [if_neg (fun h => absurd (hD _ h.2.1).2.1 (by decide))]; show tkn 4 [49, 44, 48, 48, 48, 46, 53] 7 (N [49, 44, 48, 48, 48, 46, 53]) = _; rw [h2]; rfl) rfl rfl ?_
  refine WD_step hD (a := 46) (i := 1) (n := 3) (m := [85, 83, 68, 32, 123, 123, 32, 107, 101, 121, 58, 32, 59, 32, 120]) (r := [32, 123, 123, 32, 107, 101, 121, 58, 32, 59, 32, 120]) rfl rfl (by decide) (by kernel_rfl) rfl rfl ?_
  refine WD_step hD (a := 50) (i := 1) (n := 2) (m := [123, 123, 32, 107, 101, 121, 58, 32, 59, 32, 120]) (r := [32, 107, 101, 121, 58, 32, 59, 32, 120]) rfl rfl (by decide) (by kernel_rfl) rfl rfl ?_
  refine WD_step hD (a := 53) (i := 1) (n := 4) (m := [107, 101, 121, 58, 32, 59, 32, 120]) (r := [32, 59, 32, 120]) rfl rfl (by decide) (by kernel_rfl) rfl rfl ?_
  exact WD_stop (.inr rfl)
theorem wd_aw2 {D N : List Nat → Bool} : WD D N 0 [111, 112, 101, 110, 32, 36] = .inl (6, 3) := by kernel_rfl

set_option maxHeartbeats 16000000 in
set_option maxRecDepth 100000 in
theorem awake12 {D N : List Nat → Bool} {ok : World → Prop} (hk : Okw ok) (hD : DayOk D) (h1 : D [50, 48, 50, 52, 45, 48, 49, 45, 48, 50] = true) (h2 : N [49, 44, 48, 48, 48, 46, 53] = true) (LX : Lexes D N ok) : Awk ok := by
  intro w hok
  have OK : Hid (∀ {W : World}, Below w.heap.size w W → ok W) := fun hb => hk hok hb
  have W1 : Hid (∀ W, ok W → Calls Tryd.prog 6 #[.agg #[.int .i64 3, .string ⟨#[50, 48, 50, 52, 45, 48, 49, 45, 48, 50, 32, 42, 32, 34, 97, 92, 34, 98, 34, 32, 35, 116, 32, 94, 108, 32, 65, 115, 115, 101, 116, 115, 58, 66, 97, 110, 107, 32, 45, 49, 44, 48, 48, 48, 46, 53, 32, 85, 83, 68, 32, 123, 123, 32, 107, 101, 121, 58, 32, 59, 32, 120]⟩]] W (fun e w' => (∃ b p c, e = .returned (.tuple #[.slice (some ⟨b, p, none⟩) 11 c, .agg #[.int .i64 0, .int .i64 0, .int .i64 0]]) ∧ RdT w' (some ⟨b, p, none⟩) 11 c 3 awW1) ∧ Below W.heap.size W w')) := fun W hW => by
    have := LX.words 3 ⟨#[50, 48, 50, 52, 45, 48, 49, 45, 48, 50, 32, 42, 32, 34, 97, 92, 34, 98, 34, 32, 35, 116, 32, 94, 108, 32, 65, 115, 115, 101, 116, 115, 58, 66, 97, 110, 107, 32, 45, 49, 44, 48, 48, 48, 46, 53, 32, 85, 83, 68, 32, 123, 123, 32, 107, 101, 121, 58, 32, 59, 32, 120]⟩ hW (by decide)
    rw [show bs9 ⟨#[50, 48, 50, 52, 45, 48, 49, 45, 48, 50, 32, 42, 32, 34, 97, 92, 34, 98, 34, 32, 35, 116, 32, 94, 108, 32, 65, 115, 115, 101, 116, 115, 58, 66, 97, 110, 107, 32, 45, 49, 44, 48, 48, 48, 46, 53, 32, 85, 83, 68, 32, 123, 123, 32, 107, 101, 121, 58, 32, 59, 32, 120]⟩ = awL1 from by kernel_rfl, wd_aw1 hD h1 h2] at this
    refine this.mono ?_
    rintro e v ⟨⟨A, c, he, hr⟩, hb⟩
    obtain ⟨_, g2, g3, g4 | ⟨b, p, rfl, g5, g6⟩⟩ := id hr
    · cases g4
    · exact ⟨⟨b, p, c, he, hr⟩, hb⟩
  have W2 : Hid (∀ W, ok W → Calls Tryd.prog 6 #[.agg #[.int .i64 3, .string ⟨#[111, 112, 101, 110, 32, 36]⟩]] W (RetW W 3 (.inl (6, 3)))) := fun W hW => by
    have := LX.words 3 ⟨#[111, 112, 101, 110, 32, 36]⟩ hW (by decide)
    rw [show bs9 ⟨#[111, 112, 101, 110, 32, 36]⟩ = [111, 112, 101, 110, 32, 36] from by kernel_rfl, wd_aw2] at this; exact this
  have U1 : Hid (∀ W, ok W → Calls Tryd.prog 9 #[.string ⟨#[34, 120, 92, 110, 34, 121]⟩] W (Ret9 W (.tuple #[.string ⟨#[120, 10]⟩, .int .i64 5, .int .i64 0]))) := fun W hW => LX.unquote (n := 5) (e := 0) hW (by kernel_rfl) (by decide)
  have U2 : Hid (∀ W, ok W → Calls Tryd.prog 9 #[.string ⟨#[34, 120]⟩] W (Ret9 W (.tuple #[.string ⟨#[]⟩, .int .i64 0, .int .i64 2]))) := fun W hW => LX.unquote (n := 0) (e := 2) hW (by kernel_rfl) (by decide)
  have U3 : Hid (∀ W, ok W → Calls Tryd.prog 9 #[.string ⟨#[34, 92, 120, 34]⟩] W (Ret9 W (.tuple #[.string ⟨#[]⟩, .int .i64 0, .int .i64 3]))) := fun W hW => LX.unquote (n := 0) (e := 3) hW (by kernel_rfl) (by decide)
  have Q1 : Hid (∀ W, ok W → Calls Tryd.prog 8 #[.string ⟨#[97, 34, 98]⟩] W (Ret9 W (.string ⟨#[34, 97, 92, 34, 98, 34]⟩))) := fun W hW => LX.quote hW (by kernel_rfl) (by decide)
  have M1 : Hid (∀ W, ok W → Calls Tryd.prog 10 #[.string ⟨#[64, 64, 120]⟩] W (Ret9 W (.int .i64 2))) := fun W hW => LX.mark (n := 2) hW (by kernel_rfl) (by decide)
  have M2 : Hid (∀ W, ok W → Calls Tryd.prog 10 #[.string ⟨#[64, 120]⟩] W (Ret9 W (.int .i64 1))) := fun W hW => LX.mark (n := 1) hW (by kernel_rfl) (by decide)
  have M3 : Hid (∀ W, ok W → Calls Tryd.prog 10 #[.string ⟨#[120]⟩] W (Ret9 W (.int .i64 0))) := fun W hW => LX.mark (n := 0) hW (by kernel_rfl) (by decide)
  have E : Hid (Below w.heap.size w w) := Below.refl _ _
  clear hk hD h1 h2 LX hok
  go_enter Tryd.func5, Tryd.ntmps5
  go_wp2_with fail
  refine (W1.out _ (OK.out E.out)).mono ?_; rintro e v1 ⟨⟨b, p, c, rfl, hr⟩, hb⟩
  have g11 : 11 ≤ c := hr.2.1
  have R1 := Lib.hid hr
  replace E := Lib.hid (E.out.trans (hb.mono E.out.size))
  clear hb hr
  have hb := (Below.refl v1.heap.size v1).alloc (Nat.le_refl _) (.cells #[.int .i64 0, .int .i64 0, .int .i64 0] 30)
  replace E := Lib.hid (E.out.trans (hb.mono E.out.size))
  replace R1 := Lib.hid (R1.out.on hb)
  have F1 := Lib.hid (Bx3.newAt v1 (.int .i64 0) (.int .i64 0) (.int .i64 0) 30 rfl)
  clear hb
  go_wp2_with fail
  refine (W2.out _ (OK.out E.out)).mono ?_; rintro e v2 ⟨rfl, hb⟩
  replace E := Lib.hid (E.out.trans (hb.mono E.out.size))
  replace R1 := Lib.hid (R1.out.on hb)
  replace F1 := Lib.hid (F1.out.on hb)
  clear hb
  have hb := (Below.refl v2.heap.size v2).alloc (Nat.le_refl _) (.cells #[.int .i64 3, .int .i64 6, .int .i64 3] 30)
  replace E := Lib.hid (E.out.trans (hb.mono E.out.size))
  replace R1 := Lib.hid (R1.out.on hb)
  replace F1 := Lib.hid (F1.out.on hb)
  have F2 := Lib.hid (Bx3.newAt v2 (.int .i64 3) (.int .i64 6) (.int .i64 3) 30 rfl)
  clear hb
  go_wp2_with fail
  refine (U1.out _ (OK.out E.out)).mono ?_; rintro e v3 ⟨rfl, hb⟩
  replace E := Lib.hid (E.out.trans (hb.mono E.out.size)); replace R1 := Lib.hid (R1.out.on hb); replace F1 := Lib.hid (F1.out.on hb); replace F2 := Lib.hid (F2.out.on hb); clear hb
  go_wp2_with fail
  refine (U2.out _ (OK.out E.out)).mono ?_; rintro e v4 ⟨rfl, hb⟩
  replace E := Lib.hid (E.out.trans (hb.mono E.out.size)); replace R1 := Lib.hid (R1.out.on hb); replace F1 := Lib.hid (F1.out.on hb); replace F2 := Lib.hid (F2.out.on hb); clear hb
  go_wp2_with fail
  refine (U3.out _ (OK.out E.out)).mono ?_; rintro e v5 ⟨rfl, hb⟩
  replace E := Lib.hid (E.out.trans (hb.mono E.out.size)); replace R1 := Lib.hid (R1.out.on hb); replace F1 := Lib.hid (F1.out.on hb); replace F2 := Lib.hid (F2.out.on hb); clear hb
  obtain ⟨a0, a1, a2, _, _, _, _⟩ := F1.out
  obtain ⟨b0, b1, b2, _, _, _, _⟩ := F2.out
  obtain ⟨gz, _, g13, g4 | ⟨b', p', gh, g5, g6⟩⟩ := R1.out
  · cases g4
  cases gh
  have d0 : v5.cell? ⟨b, p, none⟩ = some (.int .i64 1) := g6 0 _ rfl
  have d1 : v5.cell? ⟨b, p + 1, none⟩ = some (.string ⟨#[50, 48, 50, 52, 45, 48, 49, 45, 48, 50]⟩) := g6 1 _ rfl
  have d2 : v5.cell? ⟨b, p + 2, none⟩ = some (.int .i64 3) := g6 2 _ rfl
  have d3 : v5.cell? ⟨b, p + 3, none⟩ = some (.int .i64 1) := g6 3 _ rfl
  have d4 : v5.cell? ⟨b, p + 4, none⟩ = some (.int .i64 10) := g6 4 _ rfl
  have d8 : v5.cell? ⟨b, p + 8, none⟩ = some (.int .i64 5) := g6 8 _ rfl
  have d9 : v5.cell? ⟨b, p + 9, none⟩ = some (.string ⟨#[97, 34, 98]⟩) := g6 9 _ rfl
  have d10 : v5.cell? ⟨b, p + 10, none⟩ = some (.int .i64 3) := g6 10 _ rfl
  have d11 : v5.cell? ⟨b, p + 11, none⟩ = some (.int .i64 14) := g6 11 _ rfl
  have d13 : v5.cell? ⟨b, p + 13, none⟩ = some (.string ⟨#[116]⟩) := g6 13 _ rfl
  have d16 : v5.cell? ⟨b, p + 16, none⟩ = some (.int .i64 7) := g6 16 _ rfl
  have d20 : v5.cell? ⟨b, p + 20, none⟩ = some (.int .i64 2) := g6 20 _ rfl
  have d25 : v5.cell? ⟨b, p + 25, none⟩ = some (.string ⟨#[45]⟩) := g6 25 _ rfl
  have d28 : v5.cell? ⟨b, p + 28, none⟩ = some (.int .i64 4) := g6 28 _ rfl
  have d29 : v5.cell? ⟨b, p + 29, none⟩ = some (.string ⟨#[49, 44, 48, 48, 48, 46, 53]⟩) := g6 29 _ rfl
  have d30 : v5.cell? ⟨b, p + 30, none⟩ = some (.int .i64 3) := g6 30 _ rfl
  have d31 : v5.cell? ⟨b, p + 31, none⟩ = some (.int .i64 40) := g6 31 _ rfl
  have d32 : v5.cell? ⟨b, p + 32, none⟩ = some (.int .i64 3) := g6 32 _ rfl
  have d37 : v5.cell? ⟨b, p + 37, none⟩ = some (.string ⟨#[123, 123]⟩) := g6 37 _ rfl
  have d40 : v5.cell? ⟨b, p + 40, none⟩ = some (.int .i64 9) := g6 40 _ rfl
  clear g5 g6 gz R1 F1 F2
  go_wp2_with fail
  refine (Q1.out _ (OK.out E.out)).mono ?_; rintro e w1 ⟨rfl, hb⟩; replace E := Lib.hid (E.out.trans (hb.mono E.out.size)); clear hb
  go_wp2_with fail
  refine (M1.out _ (OK.out E.out)).mono ?_; rintro e w1 ⟨rfl, hb⟩; replace E := Lib.hid (E.out.trans (hb.mono E.out.size)); clear hb
  go_wp2_with fail
  refine (M2.out _ (OK.out E.out)).mono ?_; rintro e w1 ⟨rfl, hb⟩; replace E := Lib.hid (E.out.trans (hb.mono E.out.size)); clear hb
  go_wp2_with fail
  refine (M3.out _ (OK.out E.out)).mono ?_; rintro e w1 ⟨rfl, hb⟩; replace E := Lib.hid (E.out.trans (hb.mono E.out.size)); clear hb
  go_wp2_with fail
  go_ret
  exact ⟨rfl, E.out⟩

end Go.Proofs.YtjkandnbjbfeiaaDoor
