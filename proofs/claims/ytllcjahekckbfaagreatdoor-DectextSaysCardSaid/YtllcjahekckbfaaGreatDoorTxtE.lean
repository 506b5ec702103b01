/-
  Layer 7, contracts, the fifth part: Parse.
-/
import Derived.Test.YtllcjahekckbfaaGreatDoorTxtD
import Derived.Test.YtllcjahekckbfaaGreatDoorAllDecD
set_option linter.unusedVariables false
set_option linter.unusedSimpArgs false
namespace Go.Proofs.YtllcjahekckbfaaGreatDoor
open Go.RowKit

theorem rst_sub (l : List Nat) : ∀ c ∈ rst l, c ∈ l := by
  intro c hc
  unfold rst at hc
  split at hc
  · exact List.mem_of_mem_drop hc
  · exact hc
theorem rst_len (l : List Nat) : (rst l).length ≤ l.length := by
  unfold rst
  split
  · rw [List.length_drop]; omega
  · exact Nat.le_refl _
theorem ahd_bhd_len (l : List Nat) : (ahd l).length + (bhd l).length ≤ l.length := by
  unfold ahd bhd
  have h : (l.takeWhile (fun c => c != 46)).length + (l.dropWhile (fun c => c != 46)).length = l.length := by
    rw [← List.length_append, List.takeWhile_append_dropWhile]
  rw [List.length_drop]; omega
theorem ahd_sub (l : List Nat) : ∀ c ∈ ahd l, c ∈ l := fun _ hc => (List.takeWhile_sublist _).subset hc
theorem bhd_sub (l : List Nat) : ∀ c ∈ bhd l, c ∈ l := fun _ hc => (List.dropWhile_sublist _).subset (List.mem_of_mem_drop hc)
theorem nocom_sub (l : List Nat) : ∀ c ∈ nocom l, c ∈ l := fun _ hc => (List.mem_filter.1 hc).1
theorem nocom_len (l : List Nat) : (nocom l).length ≤ l.length := List.length_filter_le _ _
theorem digsOf_len (l : List Nat) : (digsOf l).length ≤ l.length := by
  unfold digsOf
  rw [List.length_append]
  have := nocom_len (ahd l)
  have := ahd_bhd_len l
  omega
theorem nocom_ne {l : List Nat} (h : l ≠ []) (hu : ungB l = true) : nocom l ≠ [] := by
  cases l with
  | nil => exact absurd rfl h
  | cons c l =>
    by_cases hc : c = 44
    · subst hc
      unfold ungB at hu
      rw [if_pos (by simp)] at hu
      simp at hu
    · rw [nocom_cons_no hc]; simp
theorem bhd_nil : ∀ {l : List Nat}, dotB l = false → bhd l = []
  | [], _ => rfl
  | c :: l, h => by
    have hc : c ≠ 46 := fun e => by subst e; simp [dotB] at h
    have hl : dotB l = false := by
      cases hx : dotB l with
      | false => rfl
      | true =>
        have : dotB (c :: l) = true := List.contains_iff_mem.2 (List.mem_cons_of_mem _ (List.contains_iff_mem.1 hx))
        rw [this] at h; cases h
    rw [bhd_cons_ne _ hc]; exact bhd_nil hl
theorem str_pos {l : List Nat} (h : l ≠ []) : 0 < (str l).size := by rw [str_size]; exact List.length_pos_iff.2 h
theorem str_nil : str [] = ⟨#[]⟩ := rfl
/-- What Parse answers where a text is none. -/
def RetErr (W : World) (z : Int) (e : Ending) (w' : World) : Prop := RetVal W (.tuple #[.agg #[.bool false, .slice none 0 0, .int .i64 0], .int .i64 z]) e w'

set_option maxRecDepth 100000 in
set_option maxHeartbeats 2000000 in
theorem read_short (s : ByteArray) (w : World) (hs : s.size ≤ 1000) (hm : MaxLen w) (hr : rst (codes s) = []) :
    Calls Tryz.prog 6 #[.string s] w (RetErr w 2) := by
  have hlt : ∀ c ∈ codes s, c < 256 := codes_lt s
  have hL := codes_len s
  have CG : ∀ w', Calls Tryz.prog 20 #[.string s] w' (RetVal w' (.tuple #[.bool (sgnB (codes s)), .string (str (rst (codes s)))])) := fun w' => signed_any s w' (by omega)
  have h1 := rst_len (codes s)
  obtain ⟨r, hrr⟩ : ∃ r, r = rst (codes s) := ⟨_, rfl⟩
  have hrlt : ∀ c ∈ r, c < 256 := by rw [hrr]; exact fun c hc => hlt c (rst_sub _ c hc)
  have hrl : r.length ≤ 1000 := by rw [hrr]; omega
  rw [← hrr] at CG hr
  obtain ⟨sg, hsg⟩ : ∃ sg, sg = sgnB (codes s) := ⟨_, rfl⟩
  rw [← hsg] at CG
  clear hsg
  clear hrr h1 hL hlt
  rw [hr, str_nil] at CG
  clear hr hrlt hrl
  have CGH := Lib.hid CG
  clear CG
  go_enter Tryz.func6, Tryz.ntmps6
  go_wp2_with fail
  generalize hW : World.alloc w _ = W0
  have E0 : St w W0 [] [(w.heap.size, .bool false, .slice none 0 0, .int .i64 0)] := by rw [← hW]; exact (St.start w (l := []) (fun q hq => absurd hq List.not_mem_nil)).lay rfl
  have E := Lib.hid E0
  clear hW E0
  refine (CGH.out _).mono ?_; rintro e w1 ⟨rfl, hb1⟩; replace E := Lib.hid (St.step E.out hb1); clear hb1
  obtain ⟨r0, r1, r2, rf0, rf1, rf2, rlt⟩ := St.at_ (x0 := .bool false) (x1 := .slice none 0 0) (x2 := .int .i64 0) (g := w.heap.size) E (by simp)
  go_wp2_with fail
  have EF := Lib.hid (St.store E.out (g := w.heap.size) (x0 := .bool false) (x1 := .slice none 0 0) (x2 := .int .i64 0) (by simp) (noLimb_bool _) (noLimb_slice _ _ _) (noLimb_int _) [] (fun q hq => by cases hq) (.bool false) (.slice none 0 0) (.int .i64 0))
  obtain ⟨e0, e1, e2, _, _, _, _⟩ := St.at_ (x0 := .bool false) (x1 := .slice none 0 0) (x2 := .int .i64 0) (g := w.heap.size) EF (by simp)
  exact bodyPost_ret (v := .tuple #[.agg #[.bool false, .slice none 0 0, .int .i64 0], .int .i64 2]) (by simp [results, Tryz.results6, go_sem, e0, e1, e2]) rfl ⟨rfl, EF.out.bel⟩

set_option maxRecDepth 100000 in
set_option maxHeartbeats 2000000 in
theorem read_noahd (s : ByteArray) (w : World) (hs : s.size ≤ 1000) (hm : MaxLen w) (hr : rst (codes s) ≠ []) (ha : ahd (rst (codes s)) = []) :
    Calls Tryz.prog 6 #[.string s] w (RetErr w 3) := by
  have hlt : ∀ c ∈ codes s, c < 256 := codes_lt s
  have hL := codes_len s
  have CG : ∀ w', Calls Tryz.prog 20 #[.string s] w' (RetVal w' (.tuple #[.bool (sgnB (codes s)), .string (str (rst (codes s)))])) := fun w' => signed_any s w' (by omega)
  have h1 := rst_len (codes s)
  obtain ⟨r, hrr⟩ : ∃ r, r = rst (codes s) := ⟨_, rfl⟩
  have hrlt : ∀ c ∈ r, c < 256 := by rw [hrr]; exact fun c hc => hlt c (rst_sub _ c hc)
  have hrl : r.length ≤ 1000 := by rw [hrr]; omega
  rw [← hrr] at CG hr ha
  obtain ⟨sg, hsg⟩ : ∃ sg, sg = sgnB (codes s) := ⟨_, rfl⟩
  rw [← hsg] at CG
  clear hsg
  clear hrr h1 hL hlt
  have hSp := str_pos hr
  have hSc : codes (str r) = r := codes_str hrlt
  have hSs : (str r).size = r.length := str_size r
  have CC : ∀ w', Below w.heap.size w w' → Calls Tryz.prog 21 #[.string (str r), .string ⟨#[46]⟩] w' (RetVal w' (.tuple #[.string (str (ahd r)), .string (str (bhd r)), .bool (dotB r)])) := fun w' hb' => by
    have e := scut_any (str r) w' (by omega) (hm.on hb')
    rw [hSc] at e; exact e
  obtain ⟨S, hS⟩ : ∃ S, S = str r := ⟨_, rfl⟩
  rw [← hS] at CG CC hSp
  clear hS hSc hSs
  obtain ⟨he1, he2, he3, he4⟩ := str_ne hSp
  rw [ha, str_nil] at CC
  obtain ⟨Q, hQ⟩ : ∃ Q, Q = str (bhd r) := ⟨_, rfl⟩
  obtain ⟨D, hD⟩ : ∃ D, D = dotB r := ⟨_, rfl⟩
  rw [← hQ, ← hD] at CC
  clear hQ hD ha hr hrlt hrl
  have CCH := Lib.hid CC
  clear CC
  have CGH := Lib.hid CG
  clear CG
  go_enter Tryz.func6, Tryz.ntmps6
  go_wp2_with fail
  generalize hW : World.alloc w _ = W0
  have E0 : St w W0 [] [(w.heap.size, .bool false, .slice none 0 0, .int .i64 0)] := by rw [← hW]; exact (St.start w (l := []) (fun q hq => absurd hq List.not_mem_nil)).lay rfl
  have E := Lib.hid E0
  clear hW E0
  refine (CGH.out _).mono ?_; rintro e w1 ⟨rfl, hb1⟩; replace E := Lib.hid (St.step E.out hb1); clear hb1
  go_wp2_with fail
  refine (CCH.out _ E.out.bel).mono ?_; rintro e w2 ⟨rfl, hb1⟩; replace E := Lib.hid (St.step E.out hb1); clear hb1
  obtain ⟨r0, r1, r2, rf0, rf1, rf2, rlt⟩ := St.at_ (x0 := .bool false) (x1 := .slice none 0 0) (x2 := .int .i64 0) (g := w.heap.size) E (by simp)
  go_wp2_with fail
  have EF := Lib.hid (St.store E.out (g := w.heap.size) (x0 := .bool false) (x1 := .slice none 0 0) (x2 := .int .i64 0) (by simp) (noLimb_bool _) (noLimb_slice _ _ _) (noLimb_int _) [] (fun q hq => by cases hq) (.bool false) (.slice none 0 0) (.int .i64 0))
  obtain ⟨e0, e1, e2, _, _, _, _⟩ := St.at_ (x0 := .bool false) (x1 := .slice none 0 0) (x2 := .int .i64 0) (g := w.heap.size) EF (by simp)
  exact bodyPost_ret (v := .tuple #[.agg #[.bool false, .slice none 0 0, .int .i64 0], .int .i64 3]) (by simp [results, Tryz.results6, go_sem, e0, e1, e2]) rfl ⟨rfl, EF.out.bel⟩

set_option maxRecDepth 100000 in
set_option maxHeartbeats 2000000 in
theorem read_dotonly (s : ByteArray) (w : World) (hs : s.size ≤ 1000) (hm : MaxLen w) (hr : rst (codes s) ≠ []) (ha : ahd (rst (codes s)) ≠ []) (hd : dotB (rst (codes s)) = true) (hb : bhd (rst (codes s)) = []) :
    Calls Tryz.prog 6 #[.string s] w (RetErr w 3) := by
  have hlt : ∀ c ∈ codes s, c < 256 := codes_lt s
  have hL := codes_len s
  have CG : ∀ w', Calls Tryz.prog 20 #[.string s] w' (RetVal w' (.tuple #[.bool (sgnB (codes s)), .string (str (rst (codes s)))])) := fun w' => signed_any s w' (by omega)
  have h1 := rst_len (codes s)
  obtain ⟨r, hrr⟩ : ∃ r, r = rst (codes s) := ⟨_, rfl⟩
  have hrlt : ∀ c ∈ r, c < 256 := by rw [hrr]; exact fun c hc => hlt c (rst_sub _ c hc)
  have hrl : r.length ≤ 1000 := by rw [hrr]; omega
  rw [← hrr] at CG hr ha
  rw [← hrr] at hd hb
  obtain ⟨sg, hsg⟩ : ∃ sg, sg = sgnB (codes s) := ⟨_, rfl⟩
  rw [← hsg] at CG
  clear hsg
  clear hrr h1 hL hlt
  have hSp := str_pos hr
  have hSc : codes (str r) = r := codes_str hrlt
  have hSs : (str r).size = r.length := str_size r
  have CC : ∀ w', Below w.heap.size w w' → Calls Tryz.prog 21 #[.string (str r), .string ⟨#[46]⟩] w' (RetVal w' (.tuple #[.string (str (ahd r)), .string (str (bhd r)), .bool (dotB r)])) := fun w' hb' => by
    have e := scut_any (str r) w' (by omega) (hm.on hb')
    rw [hSc] at e; exact e
  obtain ⟨S, hS⟩ : ∃ S, S = str r := ⟨_, rfl⟩
  rw [← hS] at CG CC hSp
  clear hS hSc hSs
  obtain ⟨he1, he2, he3, he4⟩ := str_ne hSp
  have hPp := str_pos ha
  have hPc : codes (str (ahd r)) = ahd r := codes_str (fun c hc => hrlt c (ahd_sub _ c hc))
  have hPs : (str (ahd r)).size = (ahd r).length := str_size _
  have hab := ahd_bhd_len r
  rw [hd, hb, str_nil] at CC
  obtain ⟨P, hP⟩ : ∃ P, P = str (ahd r) := ⟨_, rfl⟩
  rw [← hP] at CC hPp
  clear hP hPc hPs hab hd hb ha hr hrlt hrl
  obtain ⟨hf1, hf2, hf3, hf4⟩ := str_ne hPp
  have CCH := Lib.hid CC
  clear CC
  have CGH := Lib.hid CG
  clear CG
  go_enter Tryz.func6, Tryz.ntmps6
  go_wp2_with fail
  generalize hW : World.alloc w _ = W0
  have E0 : St w W0 [] [(w.heap.size, .bool false, .slice none 0 0, .int .i64 0)] := by rw [← hW]; exact (St.start w (l := []) (fun q hq => absurd hq List.not_mem_nil)).lay rfl
  have E := Lib.hid E0
  clear hW E0
  refine (CGH.out _).mono ?_; rintro e w1 ⟨rfl, hb1⟩; replace E := Lib.hid (St.step E.out hb1); clear hb1
  go_wp2_with fail
  refine (CCH.out _ E.out.bel).mono ?_; rintro e w2 ⟨rfl, hb1⟩; replace E := Lib.hid (St.step E.out hb1); clear hb1
  obtain ⟨r0, r1, r2, rf0, rf1, rf2, rlt⟩ := St.at_ (x0 := .bool false) (x1 := .slice none 0 0) (x2 := .int .i64 0) (g := w.heap.size) E (by simp)
  go_wp2_with fail
  have EF := Lib.hid (St.store E.out (g := w.heap.size) (x0 := .bool false) (x1 := .slice none 0 0) (x2 := .int .i64 0) (by simp) (noLimb_bool _) (noLimb_slice _ _ _) (noLimb_int _) [] (fun q hq => by cases hq) (.bool false) (.slice none 0 0) (.int .i64 0))
  obtain ⟨e0, e1, e2, _, _, _, _⟩ := St.at_ (x0 := .bool false) (x1 := .slice none 0 0) (x2 := .int .i64 0) (g := w.heap.size) EF (by simp)
  exact bodyPost_ret (v := .tuple #[.agg #[.bool false, .slice none 0 0, .int .i64 0], .int .i64 3]) (by simp [results, Tryz.results6, go_sem, e0, e1, e2]) rfl ⟨rfl, EF.out.bel⟩

set_option maxRecDepth 100000 in
set_option maxHeartbeats 2000000 in
theorem read_ungd (s : ByteArray) (w : World) (hs : s.size ≤ 1000) (hm : MaxLen w) (hr : rst (codes s) ≠ []) (ha : ahd (rst (codes s)) ≠ []) (hd : dotB (rst (codes s)) = true) (hb : bhd (rst (codes s)) ≠ []) (hu : ungB (ahd (rst (codes s))) = false) :
    Calls Tryz.prog 6 #[.string s] w (RetErr w 3) := by
  have hlt : ∀ c ∈ codes s, c < 256 := codes_lt s
  have hL := codes_len s
  have CG : ∀ w', Calls Tryz.prog 20 #[.string s] w' (RetVal w' (.tuple #[.bool (sgnB (codes s)), .string (str (rst (codes s)))])) := fun w' => signed_any s w' (by omega)
  have h1 := rst_len (codes s)
  obtain ⟨r, hrr⟩ : ∃ r, r = rst (codes s) := ⟨_, rfl⟩
  have hrlt : ∀ c ∈ r, c < 256 := by rw [hrr]; exact fun c hc => hlt c (rst_sub _ c hc)
  have hrl : r.length ≤ 1000 := by rw [hrr]; omega
  rw [← hrr] at CG hr ha
  rw [← hrr] at hd hu hb
  obtain ⟨sg, hsg⟩ : ∃ sg, sg = sgnB (codes s) := ⟨_, rfl⟩
  rw [← hsg] at CG
  clear hsg
  clear hrr h1 hL hlt
  have hSp := str_pos hr
  have hSc : codes (str r) = r := codes_str hrlt
  have hSs : (str r).size = r.length := str_size r
  have CC : ∀ w', Below w.heap.size w w' → Calls Tryz.prog 21 #[.string (str r), .string ⟨#[46]⟩] w' (RetVal w' (.tuple #[.string (str (ahd r)), .string (str (bhd r)), .bool (dotB r)])) := fun w' hb' => by
    have e := scut_any (str r) w' (by omega) (hm.on hb')
    rw [hSc] at e; exact e
  obtain ⟨S, hS⟩ : ∃ S, S = str r := ⟨_, rfl⟩
  rw [← hS] at CG CC hSp
  clear hS hSc hSs
  obtain ⟨he1, he2, he3, he4⟩ := str_ne hSp
  have hPp := str_pos ha
  have hPc : codes (str (ahd r)) = ahd r := codes_str (fun c hc => hrlt c (ahd_sub _ c hc))
  have hPs : (str (ahd r)).size = (ahd r).length := str_size _
  have hab := ahd_bhd_len r
  have CU : ∀ w', Below w.heap.size w w' → Calls Tryz.prog 22 #[.string (str (ahd r))] w' (RetVal w' (.tuple #[.string ⟨#[]⟩, .bool false])) := fun w' hb' => by
    have e := ungrouped_any (str (ahd r)) w' hPp (by omega) (hm.on hb')
    rw [hPc, ungS_no hu, hu] at e; exact e
  rw [hd] at CC
  have hQp := str_pos hb
  have HQS := Lib.hid (str_size (bhd r))
  have hQl : (bhd r).length ≤ 1000 := by omega
  obtain ⟨P, hP⟩ : ∃ P, P = str (ahd r) := ⟨_, rfl⟩
  obtain ⟨Q, hQ⟩ : ∃ Q, Q = str (bhd r) := ⟨_, rfl⟩
  rw [← hP] at CC CU hPp
  rw [← hQ] at CC HQS hQp
  have HQ := Lib.hid hQ
  have HBN := Lib.hid hb
  clear hP hQ hPc hPs hab hd hu ha hr hrlt hrl hb
  obtain ⟨hf1, hf2, hf3, hf4⟩ := str_ne hPp
  obtain ⟨hq1, hq2, hq3, hq4⟩ := str_ne hQp
  have CUH := Lib.hid CU
  clear CU
  have CCH := Lib.hid CC
  clear CC
  have CGH := Lib.hid CG
  clear CG
  go_enter Tryz.func6, Tryz.ntmps6
  go_wp2_with fail
  generalize hW : World.alloc w _ = W0
  have E0 : St w W0 [] [(w.heap.size, .bool false, .slice none 0 0, .int .i64 0)] := by rw [← hW]; exact (St.start w (l := []) (fun q hq => absurd hq List.not_mem_nil)).lay rfl
  have E := Lib.hid E0
  clear hW E0
  refine (CGH.out _).mono ?_; rintro e w1 ⟨rfl, hb1⟩; replace E := Lib.hid (St.step E.out hb1); clear hb1
  go_wp2_with fail
  refine (CCH.out _ E.out.bel).mono ?_; rintro e w2 ⟨rfl, hb1⟩; replace E := Lib.hid (St.step E.out hb1); clear hb1
  go_wp2_with fail
  refine (CUH.out _ E.out.bel).mono ?_; rintro e w3 ⟨rfl, hb1⟩; replace E := Lib.hid (St.step E.out hb1); clear hb1
  obtain ⟨r0, r1, r2, rf0, rf1, rf2, rlt⟩ := St.at_ (x0 := .bool false) (x1 := .slice none 0 0) (x2 := .int .i64 0) (g := w.heap.size) E (by simp)
  go_wp2_with fail
  have EF := Lib.hid (St.store E.out (g := w.heap.size) (x0 := .bool false) (x1 := .slice none 0 0) (x2 := .int .i64 0) (by simp) (noLimb_bool _) (noLimb_slice _ _ _) (noLimb_int _) [] (fun q hq => by cases hq) (.bool false) (.slice none 0 0) (.int .i64 0))
  obtain ⟨e0, e1, e2, _, _, _, _⟩ := St.at_ (x0 := .bool false) (x1 := .slice none 0 0) (x2 := .int .i64 0) (g := w.heap.size) EF (by simp)
  exact bodyPost_ret (v := .tuple #[.agg #[.bool false, .slice none 0 0, .int .i64 0], .int .i64 3]) (by simp [results, Tryz.results6, go_sem, e0, e1, e2]) rfl ⟨rfl, EF.out.bel⟩

set_option maxRecDepth 100000 in
set_option maxHeartbeats 2000000 in
theorem read_digd (s : ByteArray) (w : World) (hs : s.size ≤ 1000) (hm : MaxLen w) (hr : rst (codes s) ≠ []) (ha : ahd (rst (codes s)) ≠ []) (hd : dotB (rst (codes s)) = true) (hb : bhd (rst (codes s)) ≠ []) (hu : ungB (ahd (rst (codes s))) = true) (hg : ¬ digs (digsOf (rst (codes s)))) :
    Calls Tryz.prog 6 #[.string s] w (RetErr w 3) := by
  have hlt : ∀ c ∈ codes s, c < 256 := codes_lt s
  have hL := codes_len s
  have CG : ∀ w', Calls Tryz.prog 20 #[.string s] w' (RetVal w' (.tuple #[.bool (sgnB (codes s)), .string (str (rst (codes s)))])) := fun w' => signed_any s w' (by omega)
  have h1 := rst_len (codes s)
  obtain ⟨r, hrr⟩ : ∃ r, r = rst (codes s) := ⟨_, rfl⟩
  have hrlt : ∀ c ∈ r, c < 256 := by rw [hrr]; exact fun c hc => hlt c (rst_sub _ c hc)
  have hrl : r.length ≤ 1000 := by rw [hrr]; omega
  rw [← hrr] at CG hr ha
  rw [← hrr] at hd hu hb hg
  obtain ⟨sg, hsg⟩ : ∃ sg, sg = sgnB (codes s) := ⟨_, rfl⟩
  rw [← hsg] at CG
  clear hsg
  clear hrr h1 hL hlt
  have hSp := str_pos hr
  have hSc : codes (str r) = r := codes_str hrlt
  have hSs : (str r).size = r.length := str_size r
  have CC : ∀ w', Below w.heap.size w w' → Calls Tryz.prog 21 #[.string (str r), .string ⟨#[46]⟩] w' (RetVal w' (.tuple #[.string (str (ahd r)), .string (str (bhd r)), .bool (dotB r)])) := fun w' hb' => by
    have e := scut_any (str r) w' (by omega) (hm.on hb')
    rw [hSc] at e; exact e
  obtain ⟨S, hS⟩ : ∃ S, S = str r := ⟨_, rfl⟩
  rw [← hS] at CG CC hSp
  clear hS hSc hSs
  obtain ⟨he1, he2, he3, he4⟩ := str_ne hSp
  have hPp := str_pos ha
  have hPc : codes (str (ahd r)) = ahd r := codes_str (fun c hc => hrlt c (ahd_sub _ c hc))
  have hPs : (str (ahd r)).size = (ahd r).length := str_size _
  have hab := ahd_bhd_len r
  have CU : ∀ w', Below w.heap.size w w' → Calls Tryz.prog 22 #[.string (str (ahd r))] w' (RetVal w' (.tuple #[.string (str (nocom (ahd r))), .bool true])) := fun w' hb' => by
    have e := ungrouped_any (str (ahd r)) w' hPp (by omega) (hm.on hb')
    rw [hPc, ungS_yes hu, hu] at e; exact e
  have hne := nocom_ne ha hu
  have hdl := digsOf_len r
  have hadd : ∀ w', (Op.stringOp .add (str (nocom (ahd r))) (str (bhd r))).run Tryz.prog w' = .ok (.string (str (digsOf r))) w' := fun w' => str_add _ _ (by have := nocom_len (ahd r); omega) w'
  have hVc : codes (str (digsOf r)) = digsOf r := codes_str (app_lt (fun c hc => hrlt c (ahd_sub _ c (nocom_sub _ c hc))) (fun c hc => hrlt c (bhd_sub _ c hc)))
  have hVs : (str (digsOf r)).size = (digsOf r).length := str_size _
  have hVp : 0 < (str (digsOf r)).size := by
    rw [hVs]; unfold digsOf; rw [List.length_append]
    have := List.length_pos_iff.2 hne
    omega
  have CP : ∀ w', Calls Tryz.prog 23 #[.string (str (digsOf r))] w' (RetParse w' (digsOf r)) := fun w' => by
    have e := parse_any (str (digsOf r)) w' hVp (by omega)
    rw [hVc] at e; exact e
  obtain ⟨V, hV⟩ : ∃ V, V = str (digsOf r) := ⟨_, rfl⟩
  obtain ⟨U, hU⟩ : ∃ U, U = str (nocom (ahd r)) := ⟨_, rfl⟩
  rw [← hV, ← hU] at hadd
  rw [← hV] at CP
  rw [← hU] at CU
  clear hV hU hVp hVs hVc hdl hne
  have HG := Lib.hid hg
  have CPH := Lib.hid CP
  clear hg CP
  rw [hd] at CC
  have hQp := str_pos hb
  have HQS := Lib.hid (str_size (bhd r))
  have hQl : (bhd r).length ≤ 1000 := by omega
  obtain ⟨P, hP⟩ : ∃ P, P = str (ahd r) := ⟨_, rfl⟩
  obtain ⟨Q, hQ⟩ : ∃ Q, Q = str (bhd r) := ⟨_, rfl⟩
  rw [← hP] at CC CU hPp
  rw [← hQ] at CC HQS hQp hadd
  have HQ := Lib.hid hQ
  have HBN := Lib.hid hb
  clear hP hQ hPc hPs hab hd hu ha hr hrlt hrl hb
  obtain ⟨hf1, hf2, hf3, hf4⟩ := str_ne hPp
  obtain ⟨hq1, hq2, hq3, hq4⟩ := str_ne hQp
  have CUH := Lib.hid CU
  clear CU
  have CCH := Lib.hid CC
  clear CC
  have CGH := Lib.hid CG
  clear CG
  go_enter Tryz.func6, Tryz.ntmps6
  go_wp2_with fail
  generalize hW : World.alloc w _ = W0
  have E0 : St w W0 [] [(w.heap.size, .bool false, .slice none 0 0, .int .i64 0)] := by rw [← hW]; exact (St.start w (l := []) (fun q hq => absurd hq List.not_mem_nil)).lay rfl
  have E := Lib.hid E0
  clear hW E0
  refine (CGH.out _).mono ?_; rintro e w1 ⟨rfl, hb1⟩; replace E := Lib.hid (St.step E.out hb1); clear hb1
  go_wp2_with fail
  refine (CCH.out _ E.out.bel).mono ?_; rintro e w2 ⟨rfl, hb1⟩; replace E := Lib.hid (St.step E.out hb1); clear hb1
  go_wp2_with fail
  refine (CUH.out _ E.out.bel).mono ?_; rintro e w3 ⟨rfl, hb1⟩; replace E := Lib.hid (St.step E.out hb1); clear hb1
  go_wp2_with fail
  clear hadd
  refine (CPH.out _).mono ?_
  rintro e w4 (⟨hd, -⟩ | ⟨-, rfl, hb1⟩)
  · exact absurd hd HG.out
  replace E := Lib.hid (St.step E.out hb1); clear hb1
  obtain ⟨r0, r1, r2, rf0, rf1, rf2, rlt⟩ := St.at_ (x0 := .bool false) (x1 := .slice none 0 0) (x2 := .int .i64 0) (g := w.heap.size) E (by simp)
  go_wp2_with fail
  have EF := Lib.hid (St.store E.out (g := w.heap.size) (x0 := .bool false) (x1 := .slice none 0 0) (x2 := .int .i64 0) (by simp) (noLimb_bool _) (noLimb_slice _ _ _) (noLimb_int _) [] (fun q hq => by cases hq) (.bool false) (.slice none 0 0) (.int .i64 0))
  obtain ⟨e0, e1, e2, _, _, _, _⟩ := St.at_ (x0 := .bool false) (x1 := .slice none 0 0) (x2 := .int .i64 0) (g := w.heap.size) EF (by simp)
  exact bodyPost_ret (v := .tuple #[.agg #[.bool false, .slice none 0 0, .int .i64 0], .int .i64 3]) (by simp [results, Tryz.results6, go_sem, e0, e1, e2]) rfl ⟨rfl, EF.out.bel⟩

set_option maxRecDepth 100000 in
set_option maxHeartbeats 2000000 in
theorem read_okmd (s : ByteArray) (w : World) (hs : s.size ≤ 1000) (hm : MaxLen w) (hr : rst (codes s) ≠ []) (ha : ahd (rst (codes s)) ≠ []) (hd : dotB (rst (codes s)) = true) (hb : bhd (rst (codes s)) ≠ []) (hu : ungB (ahd (rst (codes s))) = true) (hg : digs (digsOf (rst (codes s)))) (hsg : sgnB (codes s) = true) :
    Calls Tryz.prog 6 #[.string s] w (RetDecE w (numD (codes s)) (bhd (rst (codes s))).length) := by
  have hlt : ∀ c ∈ codes s, c < 256 := codes_lt s
  have hL := codes_len s
  have CG : ∀ w', Calls Tryz.prog 20 #[.string s] w' (RetVal w' (.tuple #[.bool (sgnB (codes s)), .string (str (rst (codes s)))])) := fun w' => signed_any s w' (by omega)
  have h1 := rst_len (codes s)
  obtain ⟨r, hrr⟩ : ∃ r, r = rst (codes s) := ⟨_, rfl⟩
  have hrlt : ∀ c ∈ r, c < 256 := by rw [hrr]; exact fun c hc => hlt c (rst_sub _ c hc)
  have hrl : r.length ≤ 1000 := by rw [hrr]; omega
  have HNUM : Hid (numD (codes s) = sgn true (pv (digsOf r))) := by show _ = _; unfold numD sgn; rw [hsg, ← hrr]
  have HLEN : Hid ((bhd (rst (codes s))).length = (bhd r).length) := by rw [hrr]; rfl
  rw [hsg] at CG
  rw [← hrr] at CG hr ha
  rw [← hrr] at hd hu hb hg
  obtain ⟨z, hz⟩ : ∃ z, z = numD (codes s) := ⟨_, rfl⟩
  rw [← hz] at HNUM ⊢
  rw [HLEN.out]
  clear hz HLEN hsg
  clear hrr h1 hL hlt
  have hSp := str_pos hr
  have hSc : codes (str r) = r := codes_str hrlt
  have hSs : (str r).size = r.length := str_size r
  have CC : ∀ w', Below w.heap.size w w' → Calls Tryz.prog 21 #[.string (str r), .string ⟨#[46]⟩] w' (RetVal w' (.tuple #[.string (str (ahd r)), .string (str (bhd r)), .bool (dotB r)])) := fun w' hb' => by
    have e := scut_any (str r) w' (by omega) (hm.on hb')
    rw [hSc] at e; exact e
  obtain ⟨S, hS⟩ : ∃ S, S = str r := ⟨_, rfl⟩
  rw [← hS] at CG CC hSp
  clear hS hSc hSs
  obtain ⟨he1, he2, he3, he4⟩ := str_ne hSp
  have hPp := str_pos ha
  have hPc : codes (str (ahd r)) = ahd r := codes_str (fun c hc => hrlt c (ahd_sub _ c hc))
  have hPs : (str (ahd r)).size = (ahd r).length := str_size _
  have hab := ahd_bhd_len r
  have CU : ∀ w', Below w.heap.size w w' → Calls Tryz.prog 22 #[.string (str (ahd r))] w' (RetVal w' (.tuple #[.string (str (nocom (ahd r))), .bool true])) := fun w' hb' => by
    have e := ungrouped_any (str (ahd r)) w' hPp (by omega) (hm.on hb')
    rw [hPc, ungS_yes hu, hu] at e; exact e
  have hne := nocom_ne ha hu
  have hdl := digsOf_len r
  have hadd : ∀ w', (Op.stringOp .add (str (nocom (ahd r))) (str (bhd r))).run Tryz.prog w' = .ok (.string (str (digsOf r))) w' := fun w' => str_add _ _ (by have := nocom_len (ahd r); omega) w'
  have hVc : codes (str (digsOf r)) = digsOf r := codes_str (app_lt (fun c hc => hrlt c (ahd_sub _ c (nocom_sub _ c hc))) (fun c hc => hrlt c (bhd_sub _ c hc)))
  have hVs : (str (digsOf r)).size = (digsOf r).length := str_size _
  have hVp : 0 < (str (digsOf r)).size := by
    rw [hVs]; unfold digsOf; rw [List.length_append]
    have := List.length_pos_iff.2 hne
    omega
  have CP : ∀ w', Calls Tryz.prog 23 #[.string (str (digsOf r))] w' (RetParse w' (digsOf r)) := fun w' => by
    have e := parse_any (str (digsOf r)) w' hVp (by omega)
    rw [hVc] at e; exact e
  obtain ⟨V, hV⟩ : ∃ V, V = str (digsOf r) := ⟨_, rfl⟩
  obtain ⟨U, hU⟩ : ∃ U, U = str (nocom (ahd r)) := ⟨_, rfl⟩
  rw [← hV, ← hU] at hadd
  rw [← hV] at CP
  rw [← hU] at CU
  clear hV hU hVp hVs hVc hdl hne
  have HG := Lib.hid hg
  have CPH := Lib.hid CP
  clear hg CP
  rw [hd] at CC
  have hQp := str_pos hb
  have HQS := Lib.hid (str_size (bhd r))
  have hQl : (bhd r).length ≤ 1000 := by omega
  obtain ⟨P, hP⟩ : ∃ P, P = str (ahd r) := ⟨_, rfl⟩
  obtain ⟨Q, hQ⟩ : ∃ Q, Q = str (bhd r) := ⟨_, rfl⟩
  rw [← hP] at CC CU hPp
  rw [← hQ] at CC HQS hQp hadd
  have HQ := Lib.hid hQ
  have HBN := Lib.hid hb
  clear hP hQ hPc hPs hab hd hu ha hr hrlt hrl hb
  obtain ⟨hf1, hf2, hf3, hf4⟩ := str_ne hPp
  obtain ⟨hq1, hq2, hq3, hq4⟩ := str_ne hQp
  have CUH := Lib.hid CU
  clear CU
  have CCH := Lib.hid CC
  clear CC
  have CGH := Lib.hid CG
  clear CG
  go_enter Tryz.func6, Tryz.ntmps6
  go_wp2_with fail
  generalize hW : World.alloc w _ = W0
  have E0 : St w W0 [] [(w.heap.size, .bool false, .slice none 0 0, .int .i64 0)] := by rw [← hW]; exact (St.start w (l := []) (fun q hq => absurd hq List.not_mem_nil)).lay rfl
  have E := Lib.hid E0
  clear hW E0
  refine (CGH.out _).mono ?_; rintro e w1 ⟨rfl, hb1⟩; replace E := Lib.hid (St.step E.out hb1); clear hb1
  go_wp2_with fail
  refine (CCH.out _ E.out.bel).mono ?_; rintro e w2 ⟨rfl, hb1⟩; replace E := Lib.hid (St.step E.out hb1); clear hb1
  go_wp2_with fail
  refine (CUH.out _ E.out.bel).mono ?_; rintro e w3 ⟨rfl, hb1⟩; replace E := Lib.hid (St.step E.out hb1); clear hb1
  go_wp2_with fail
  clear hadd
  refine (CPH.out _).mono ?_
  rintro e w4 (⟨-, A4, n4, c4, rfl, h4, hb1⟩ | ⟨hd, -⟩)
  rotate_left
  · exact absurd HG.out hd
  replace E := Lib.hid (St.push E.out hb1 h4)
  have HP := Lib.hid (num_pos h4)
  clear hb1 h4
  obtain ⟨r0, r1, r2, rf0, rf1, rf2, rlt⟩ := St.at_ (x0 := .bool false) (x1 := .slice none 0 0) (x2 := .int .i64 0) (g := w.heap.size) E (by simp)
  go_wp2_with fail
  have EF := Lib.hid (St.store E.out (g := w.heap.size) (x0 := .bool false) (x1 := .slice none 0 0) (x2 := .int .i64 0) (by simp) (noLimb_bool _) (noLimb_slice _ _ _) (noLimb_int _) [] (fun q hq => by cases hq) (.bool (decide (0 < n4))) (.slice A4 n4 c4) (.int .i64 (Q.size : Int)))
  obtain ⟨e0, e1, e2, _, _, _, _⟩ := St.at_ (x0 := .bool (decide (0 < n4))) (x1 := .slice A4 n4 c4) (x2 := .int .i64 (Q.size : Int)) (g := w.heap.size) EF (by simp)
  exact bodyPost_ret (v := .tuple #[.agg #[.bool (decide (0 < n4)), .slice A4 n4 c4, .int .i64 (Q.size : Int)], .int .i64 0]) (by simp [results, Tryz.results6, go_sem, e0, e1, e2]) rfl ⟨A4, n4, c4, by rw [HNUM.out, ng_sgn, HQS.out, HP.out]; simp, by rw [HNUM.out, abs_sgn]; exact St.got EF (by simp), EF.out.bel⟩

set_option maxRecDepth 100000 in
set_option maxHeartbeats 2000000 in
theorem read_okpd (s : ByteArray) (w : World) (hs : s.size ≤ 1000) (hm : MaxLen w) (hr : rst (codes s) ≠ []) (ha : ahd (rst (codes s)) ≠ []) (hd : dotB (rst (codes s)) = true) (hb : bhd (rst (codes s)) ≠ []) (hu : ungB (ahd (rst (codes s))) = true) (hg : digs (digsOf (rst (codes s)))) (hsg : sgnB (codes s) = false) :
    Calls Tryz.prog 6 #[.string s] w (RetDecE w (numD (codes s)) (bhd (rst (codes s))).length) := by
  have hlt : ∀ c ∈ codes s, c < 256 := codes_lt s
  have hL := codes_len s
  have CG : ∀ w', Calls Tryz.prog 20 #[.string s] w' (RetVal w' (.tuple #[.bool (sgnB (codes s)), .string (str (rst (codes s)))])) := fun w' => signed_any s w' (by omega)
  have h1 := rst_len (codes s)
  obtain ⟨r, hrr⟩ : ∃ r, r = rst (codes s) := ⟨_, rfl⟩
  have hrlt : ∀ c ∈ r, c < 256 := by rw [hrr]; exact fun c hc => hlt c (rst_sub _ c hc)
  have hrl : r.length ≤ 1000 := by rw [hrr]; omega
  have HNUM : Hid (numD (codes s) = sgn false (pv (digsOf r))) := by show _ = _; unfold numD sgn; rw [hsg, ← hrr]
  have HLEN : Hid ((bhd (rst (codes s))).length = (bhd r).length) := by rw [hrr]; rfl
  rw [hsg] at CG
  rw [← hrr] at CG hr ha
  rw [← hrr] at hd hu hb hg
  obtain ⟨z, hz⟩ : ∃ z, z = numD (codes s) := ⟨_, rfl⟩
  rw [← hz] at HNUM ⊢
  rw [HLEN.out]
  clear hz HLEN hsg
  clear hrr h1 hL hlt
  have hSp := str_pos hr
  have hSc : codes (str r) = r := codes_str hrlt
  have hSs : (str r).size = r.length := str_size r
  have CC : ∀ w', Below w.heap.size w w' → Calls Tryz.prog 21 #[.string (str r), .string ⟨#[46]⟩] w' (RetVal w' (.tuple #[.string (str (ahd r)), .string (str (bhd r)), .bool (dotB r)])) := fun w' hb' => by
    have e := scut_any (str r) w' (by omega) (hm.on hb')
    rw [hSc] at e; exact e
  obtain ⟨S, hS⟩ : ∃ S, S = str r := ⟨_, rfl⟩
  rw [← hS] at CG CC hSp
  clear hS hSc hSs
  obtain ⟨he1, he2, he3, he4⟩ := str_ne hSp
  have hPp := str_pos ha
  have hPc : codes (str (ahd r)) = ahd r := codes_str (fun c hc => hrlt c (ahd_sub _ c hc))
  have hPs : (str (ahd r)).size = (ahd r).length := str_size _
  have hab := ahd_bhd_len r
  have CU : ∀ w', Below w.heap.size w w' → Calls Tryz.prog 22 #[.string (str (ahd r))] w' (RetVal w' (.tuple #[.string (str (nocom (ahd r))), .bool true])) := fun w' hb' => by
    have e := ungrouped_any (str (ahd r)) w' hPp (by omega) (hm.on hb')
    rw [hPc, ungS_yes hu, hu] at e; exact e
  have hne := nocom_ne ha hu
  have hdl := digsOf_len r
  have hadd : ∀ w', (Op.stringOp .add (str (nocom (ahd r))) (str (bhd r))).run Tryz.prog w' = .ok (.string (str (digsOf r))) w' := fun w' => str_add _ _ (by have := nocom_len (ahd r); omega) w'
  have hVc : codes (str (digsOf r)) = digsOf r := codes_str (app_lt (fun c hc => hrlt c (ahd_sub _ c (nocom_sub _ c hc))) (fun c hc => hrlt c (bhd_sub _ c hc)))
  have hVs : (str (digsOf r)).size = (digsOf r).length := str_size _
  have hVp : 0 < (str (digsOf r)).size := by
    rw [hVs]; unfold digsOf; rw [List.length_append]
    have := List.length_pos_iff.2 hne
    omega
  have CP : ∀ w', Calls Tryz.prog 23 #[.string (str (digsOf r))] w' (RetParse w' (digsOf r)) := fun w' => by
    have e := parse_any (str (digsOf r)) w' hVp (by omega)
    rw [hVc] at e; exact e
  obtain ⟨V, hV⟩ : ∃ V, V = str (digsOf r) := ⟨_, rfl⟩
  obtain ⟨U, hU⟩ : ∃ U, U = str (nocom (ahd r)) := ⟨_, rfl⟩
  rw [← hV, ← hU] at hadd
  rw [← hV] at CP
  rw [← hU] at CU
  clear hV hU hVp hVs hVc hdl hne
  have HG := Lib.hid hg
  have CPH := Lib.hid CP
  clear hg CP
  rw [hd] at CC
  have hQp := str_pos hb
  have HQS := Lib.hid (str_size (bhd r))
  have hQl : (bhd r).length ≤ 1000 := by omega
  obtain ⟨P, hP⟩ : ∃ P, P = str (ahd r) := ⟨_, rfl⟩
  obtain ⟨Q, hQ⟩ : ∃ Q, Q = str (bhd r) := ⟨_, rfl⟩
  rw [← hP] at CC CU hPp
  rw [← hQ] at CC HQS hQp hadd
  have HQ := Lib.hid hQ
  have HBN := Lib.hid hb
  clear hP hQ hPc hPs hab hd hu ha hr hrlt hrl hb
  obtain ⟨hf1, hf2, hf3, hf4⟩ := str_ne hPp
  obtain ⟨hq1, hq2, hq3, hq4⟩ := str_ne hQp
  have CUH := Lib.hid CU
  clear CU
  have CCH := Lib.hid CC
  clear CC
  have CGH := Lib.hid CG
  clear CG
  go_enter Tryz.func6, Tryz.ntmps6
  go_wp2_with fail
  generalize hW : World.alloc w _ = W0
  have E0 : St w W0 [] [(w.heap.size, .bool false, .slice none 0 0, .int .i64 0)] := by rw [← hW]; exact (St.start w (l := []) (fun q hq => absurd hq List.not_mem_nil)).lay rfl
  have E := Lib.hid E0
  clear hW E0
  refine (CGH.out _).mono ?_; rintro e w1 ⟨rfl, hb1⟩; replace E := Lib.hid (St.step E.out hb1); clear hb1
  go_wp2_with fail
  refine (CCH.out _ E.out.bel).mono ?_; rintro e w2 ⟨rfl, hb1⟩; replace E := Lib.hid (St.step E.out hb1); clear hb1
  go_wp2_with fail
  refine (CUH.out _ E.out.bel).mono ?_; rintro e w3 ⟨rfl, hb1⟩; replace E := Lib.hid (St.step E.out hb1); clear hb1
  go_wp2_with fail
  clear hadd
  refine (CPH.out _).mono ?_
  rintro e w4 (⟨-, A4, n4, c4, rfl, h4, hb1⟩ | ⟨hd, -⟩)
  rotate_left
  · exact absurd HG.out hd
  replace E := Lib.hid (St.push E.out hb1 h4)
  have HP := Lib.hid (num_pos h4)
  clear hb1 h4
  obtain ⟨r0, r1, r2, rf0, rf1, rf2, rlt⟩ := St.at_ (x0 := .bool false) (x1 := .slice none 0 0) (x2 := .int .i64 0) (g := w.heap.size) E (by simp)
  go_wp2_with fail
  have EF := Lib.hid (St.store E.out (g := w.heap.size) (x0 := .bool false) (x1 := .slice none 0 0) (x2 := .int .i64 0) (by simp) (noLimb_bool _) (noLimb_slice _ _ _) (noLimb_int _) [] (fun q hq => by cases hq) (.bool false) (.slice A4 n4 c4) (.int .i64 (Q.size : Int)))
  obtain ⟨e0, e1, e2, _, _, _, _⟩ := St.at_ (x0 := .bool false) (x1 := .slice A4 n4 c4) (x2 := .int .i64 (Q.size : Int)) (g := w.heap.size) EF (by simp)
  exact bodyPost_ret (v := .tuple #[.agg #[.bool false, .slice A4 n4 c4, .int .i64 (Q.size : Int)], .int .i64 0]) (by simp [results, Tryz.results6, go_sem, e0, e1, e2]) rfl ⟨A4, n4, c4, by rw [HNUM.out, ng_sgn, HQS.out]; simp, by rw [HNUM.out, abs_sgn]; exact St.got EF (by simp), EF.out.bel⟩

set_option maxRecDepth 100000 in
set_option maxHeartbeats 2000000 in
theorem read_ungw (s : ByteArray) (w : World) (hs : s.size ≤ 1000) (hm : MaxLen w) (hr : rst (codes s) ≠ []) (ha : ahd (rst (codes s)) ≠ []) (hd : dotB (rst (codes s)) = false) (hu : ungB (ahd (rst (codes s))) = false) :
    Calls Tryz.prog 6 #[.string s] w (RetErr w 3) := by
  have hlt : ∀ c ∈ codes s, c < 256 := codes_lt s
  have hL := codes_len s
  have CG : ∀ w', Calls Tryz.prog 20 #[.string s] w' (RetVal w' (.tuple #[.bool (sgnB (codes s)), .string (str (rst (codes s)))])) := fun w' => signed_any s w' (by omega)
  have h1 := rst_len (codes s)
  obtain ⟨r, hrr⟩ : ∃ r, r = rst (codes s) := ⟨_, rfl⟩
  have hrlt : ∀ c ∈ r, c < 256 := by rw [hrr]; exact fun c hc => hlt c (rst_sub _ c hc)
  have hrl : r.length ≤ 1000 := by rw [hrr]; omega
  rw [← hrr] at CG hr ha
  rw [← hrr] at hd hu
  obtain ⟨sg, hsg⟩ : ∃ sg, sg = sgnB (codes s) := ⟨_, rfl⟩
  rw [← hsg] at CG
  clear hsg
  clear hrr h1 hL hlt
  have hSp := str_pos hr
  have hSc : codes (str r) = r := codes_str hrlt
  have hSs : (str r).size = r.length := str_size r
  have CC : ∀ w', Below w.heap.size w w' → Calls Tryz.prog 21 #[.string (str r), .string ⟨#[46]⟩] w' (RetVal w' (.tuple #[.string (str (ahd r)), .string (str (bhd r)), .bool (dotB r)])) := fun w' hb' => by
    have e := scut_any (str r) w' (by omega) (hm.on hb')
    rw [hSc] at e; exact e
  obtain ⟨S, hS⟩ : ∃ S, S = str r := ⟨_, rfl⟩
  rw [← hS] at CG CC hSp
  clear hS hSc hSs
  obtain ⟨he1, he2, he3, he4⟩ := str_ne hSp
  have hPp := str_pos ha
  have hPc : codes (str (ahd r)) = ahd r := codes_str (fun c hc => hrlt c (ahd_sub _ c hc))
  have hPs : (str (ahd r)).size = (ahd r).length := str_size _
  have hab := ahd_bhd_len r
  have CU : ∀ w', Below w.heap.size w w' → Calls Tryz.prog 22 #[.string (str (ahd r))] w' (RetVal w' (.tuple #[.string ⟨#[]⟩, .bool false])) := fun w' hb' => by
    have e := ungrouped_any (str (ahd r)) w' hPp (by omega) (hm.on hb')
    rw [hPc, ungS_no hu, hu] at e; exact e
  rw [hd] at CC
  have hb := bhd_nil hd
  have HQS := Lib.hid (str_size (bhd r))
  have hQl : (bhd r).length ≤ 1000 := by omega
  obtain ⟨P, hP⟩ : ∃ P, P = str (ahd r) := ⟨_, rfl⟩
  obtain ⟨Q, hQ⟩ : ∃ Q, Q = str (bhd r) := ⟨_, rfl⟩
  rw [← hP] at CC CU hPp
  rw [← hQ] at CC HQS
  have HQ := Lib.hid hQ
  have HBN := Lib.hid hb
  clear hP hQ hPc hPs hab hd hu ha hr hrlt hrl hb
  obtain ⟨hf1, hf2, hf3, hf4⟩ := str_ne hPp
  have CUH := Lib.hid CU
  clear CU
  have CCH := Lib.hid CC
  clear CC
  have CGH := Lib.hid CG
  clear CG
  go_enter Tryz.func6, Tryz.ntmps6
  go_wp2_with fail
  generalize hW : World.alloc w _ = W0
  have E0 : St w W0 [] [(w.heap.size, .bool false, .slice none 0 0, .int .i64 0)] := by rw [← hW]; exact (St.start w (l := []) (fun q hq => absurd hq List.not_mem_nil)).lay rfl
  have E := Lib.hid E0
  clear hW E0
  refine (CGH.out _).mono ?_; rintro e w1 ⟨rfl, hb1⟩; replace E := Lib.hid (St.step E.out hb1); clear hb1
  go_wp2_with fail
  refine (CCH.out _ E.out.bel).mono ?_; rintro e w2 ⟨rfl, hb1⟩; replace E := Lib.hid (St.step E.out hb1); clear hb1
  go_wp2_with fail
  refine (CUH.out _ E.out.bel).mono ?_; rintro e w3 ⟨rfl, hb1⟩; replace E := Lib.hid (St.step E.out hb1); clear hb1
  obtain ⟨r0, r1, r2, rf0, rf1, rf2, rlt⟩ := St.at_ (x0 := .bool false) (x1 := .slice none 0 0) (x2 := .int .i64 0) (g := w.heap.size) E (by simp)
  go_wp2_with fail
  have EF := Lib.hid (St.store E.out (g := w.heap.size) (x0 := .bool false) (x1 := .slice none 0 0) (x2 := .int .i64 0) (by simp) (noLimb_bool _) (noLimb_slice _ _ _) (noLimb_int _) [] (fun q hq => by cases hq) (.bool false) (.slice none 0 0) (.int .i64 0))
  obtain ⟨e0, e1, e2, _, _, _, _⟩ := St.at_ (x0 := .bool false) (x1 := .slice none 0 0) (x2 := .int .i64 0) (g := w.heap.size) EF (by simp)
  exact bodyPost_ret (v := .tuple #[.agg #[.bool false, .slice none 0 0, .int .i64 0], .int .i64 3]) (by simp [results, Tryz.results6, go_sem, e0, e1, e2]) rfl ⟨rfl, EF.out.bel⟩

set_option maxRecDepth 100000 in
set_option maxHeartbeats 2000000 in
theorem read_digw (s : ByteArray) (w : World) (hs : s.size ≤ 1000) (hm : MaxLen w) (hr : rst (codes s) ≠ []) (ha : ahd (rst (codes s)) ≠ []) (hd : dotB (rst (codes s)) = false) (hu : ungB (ahd (rst (codes s))) = true) (hg : ¬ digs (digsOf (rst (codes s)))) :
    Calls Tryz.prog 6 #[.string s] w (RetErr w 3) := by
  have hlt : ∀ c ∈ codes s, c < 256 := codes_lt s
  have hL := codes_len s
  have CG : ∀ w', Calls Tryz.prog 20 #[.string s] w' (RetVal w' (.tuple #[.bool (sgnB (codes s)), .string (str (rst (codes s)))])) := fun w' => signed_any s w' (by omega)
  have h1 := rst_len (codes s)
  obtain ⟨r, hrr⟩ : ∃ r, r = rst (codes s) := ⟨_, rfl⟩
  have hrlt : ∀ c ∈ r, c < 256 := by rw [hrr]; exact fun c hc => hlt c (rst_sub _ c hc)
  have hrl : r.length ≤ 1000 := by rw [hrr]; omega
  rw [← hrr] at CG hr ha
  rw [← hrr] at hd hu hg
  obtain ⟨sg, hsg⟩ : ∃ sg, sg = sgnB (codes s) := ⟨_, rfl⟩
  rw [← hsg] at CG
  clear hsg
  clear hrr h1 hL hlt
  have hSp := str_pos hr
  have hSc : codes (str r) = r := codes_str hrlt
  have hSs : (str r).size = r.length := str_size r
  have CC : ∀ w', Below w.heap.size w w' → Calls Tryz.prog 21 #[.string (str r), .string ⟨#[46]⟩] w' (RetVal w' (.tuple #[.string (str (ahd r)), .string (str (bhd r)), .bool (dotB r)])) := fun w' hb' => by
    have e := scut_any (str r) w' (by omega) (hm.on hb')
    rw [hSc] at e; exact e
  obtain ⟨S, hS⟩ : ∃ S, S = str r := ⟨_, rfl⟩
  rw [← hS] at CG CC hSp
  clear hS hSc hSs
  obtain ⟨he1, he2, he3, he4⟩ := str_ne hSp
  have hPp := str_pos ha
  have hPc : codes (str (ahd r)) = ahd r := codes_str (fun c hc => hrlt c (ahd_sub _ c hc))
  have hPs : (str (ahd r)).size = (ahd r).length := str_size _
  have hab := ahd_bhd_len r
  have CU : ∀ w', Below w.heap.size w w' → Calls Tryz.prog 22 #[.string (str (ahd r))] w' (RetVal w' (.tuple #[.string (str (nocom (ahd r))), .bool true])) := fun w' hb' => by
    have e := ungrouped_any (str (ahd r)) w' hPp (by omega) (hm.on hb')
    rw [hPc, ungS_yes hu, hu] at e; exact e
  have hne := nocom_ne ha hu
  have hdl := digsOf_len r
  have hadd : ∀ w', (Op.stringOp .add (str (nocom (ahd r))) (str (bhd r))).run Tryz.prog w' = .ok (.string (str (digsOf r))) w' := fun w' => str_add _ _ (by have := nocom_len (ahd r); omega) w'
  have hVc : codes (str (digsOf r)) = digsOf r := codes_str (app_lt (fun c hc => hrlt c (ahd_sub _ c (nocom_sub _ c hc))) (fun c hc => hrlt c (bhd_sub _ c hc)))
  have hVs : (str (digsOf r)).size = (digsOf r).length := str_size _
  have hVp : 0 < (str (digsOf r)).size := by
    rw [hVs]; unfold digsOf; rw [List.length_append]
    have := List.length_pos_iff.2 hne
    omega
  have CP : ∀ w', Calls Tryz.prog 23 #[.string (str (digsOf r))] w' (RetParse w' (digsOf r)) := fun w' => by
    have e := parse_any (str (digsOf r)) w' hVp (by omega)
    rw [hVc] at e; exact e
  obtain ⟨V, hV⟩ : ∃ V, V = str (digsOf r) := ⟨_, rfl⟩
  obtain ⟨U, hU⟩ : ∃ U, U = str (nocom (ahd r)) := ⟨_, rfl⟩
  rw [← hV, ← hU] at hadd
  rw [← hV] at CP
  rw [← hU] at CU
  clear hV hU hVp hVs hVc hdl hne
  have HG := Lib.hid hg
  have CPH := Lib.hid CP
  clear hg CP
  rw [hd] at CC
  have hb := bhd_nil hd
  have HQS := Lib.hid (str_size (bhd r))
  have hQl : (bhd r).length ≤ 1000 := by omega
  obtain ⟨P, hP⟩ : ∃ P, P = str (ahd r) := ⟨_, rfl⟩
  obtain ⟨Q, hQ⟩ : ∃ Q, Q = str (bhd r) := ⟨_, rfl⟩
  rw [← hP] at CC CU hPp
  rw [← hQ] at CC HQS hadd
  have HQ := Lib.hid hQ
  have HBN := Lib.hid hb
  clear hP hQ hPc hPs hab hd hu ha hr hrlt hrl hb
  obtain ⟨hf1, hf2, hf3, hf4⟩ := str_ne hPp
  have CUH := Lib.hid CU
  clear CU
  have CCH := Lib.hid CC
  clear CC
  have CGH := Lib.hid CG
  clear CG
  go_enter Tryz.func6, Tryz.ntmps6
  go_wp2_with fail
  generalize hW : World.alloc w _ = W0
  have E0 : St w W0 [] [(w.heap.size, .bool false, .slice none 0 0, .int .i64 0)] := by rw [← hW]; exact (St.start w (l := []) (fun q hq => absurd hq List.not_mem_nil)).lay rfl
  have E := Lib.hid E0
  clear hW E0
  refine (CGH.out _).mono ?_; rintro e w1 ⟨rfl, hb1⟩; replace E := Lib.hid (St.step E.out hb1); clear hb1
  go_wp2_with fail
  refine (CCH.out _ E.out.bel).mono ?_; rintro e w2 ⟨rfl, hb1⟩; replace E := Lib.hid (St.step E.out hb1); clear hb1
  go_wp2_with fail
  refine (CUH.out _ E.out.bel).mono ?_; rintro e w3 ⟨rfl, hb1⟩; replace E := Lib.hid (St.step E.out hb1); clear hb1
  go_wp2_with fail
  clear hadd
  refine (CPH.out _).mono ?_
  rintro e w4 (⟨hd, -⟩ | ⟨-, rfl, hb1⟩)
  · exact absurd hd HG.out
  replace E := Lib.hid (St.step E.out hb1); clear hb1
  obtain ⟨r0, r1, r2, rf0, rf1, rf2, rlt⟩ := St.at_ (x0 := .bool false) (x1 := .slice none 0 0) (x2 := .int .i64 0) (g := w.heap.size) E (by simp)
  go_wp2_with fail
  have EF := Lib.hid (St.store E.out (g := w.heap.size) (x0 := .bool false) (x1 := .slice none 0 0) (x2 := .int .i64 0) (by simp) (noLimb_bool _) (noLimb_slice _ _ _) (noLimb_int _) [] (fun q hq => by cases hq) (.bool false) (.slice none 0 0) (.int .i64 0))
  obtain ⟨e0, e1, e2, _, _, _, _⟩ := St.at_ (x0 := .bool false) (x1 := .slice none 0 0) (x2 := .int .i64 0) (g := w.heap.size) EF (by simp)
  exact bodyPost_ret (v := .tuple #[.agg #[.bool false, .slice none 0 0, .int .i64 0], .int .i64 3]) (by simp [results, Tryz.results6, go_sem, e0, e1, e2]) rfl ⟨rfl, EF.out.bel⟩

set_option maxRecDepth 100000 in
set_option maxHeartbeats 2000000 in
theorem read_okmw (s : ByteArray) (w : World) (hs : s.size ≤ 1000) (hm : MaxLen w) (hr : rst (codes s) ≠ []) (ha : ahd (rst (codes s)) ≠ []) (hd : dotB (rst (codes s)) = false) (hu : ungB (ahd (rst (codes s))) = true) (hg : digs (digsOf (rst (codes s)))) (hsg : sgnB (codes s) = true) :
    Calls Tryz.prog 6 #[.string s] w (RetDecE w (numD (codes s)) (bhd (rst (codes s))).length) := by
  have hlt : ∀ c ∈ codes s, c < 256 := codes_lt s
  have hL := codes_len s
  have CG : ∀ w', Calls Tryz.prog 20 #[.string s] w' (RetVal w' (.tuple #[.bool (sgnB (codes s)), .string (str (rst (codes s)))])) := fun w' => signed_any s w' (by omega)
  have h1 := rst_len (codes s)
  obtain ⟨r, hrr⟩ : ∃ r, r = rst (codes s) := ⟨_, rfl⟩
  have hrlt : ∀ c ∈ r, c < 256 := by rw [hrr]; exact fun c hc => hlt c (rst_sub _ c hc)
  have hrl : r.length ≤ 1000 := by rw [hrr]; omega
  have HNUM : Hid (numD (codes s) = sgn true (pv (digsOf r))) := by show _ = _; unfold numD sgn; rw [hsg, ← hrr]
  have HLEN : Hid ((bhd (rst (codes s))).length = (bhd r).length) := by rw [hrr]; rfl
  rw [hsg] at CG
  rw [← hrr] at CG hr ha
  rw [← hrr] at hd hu hg
  obtain ⟨z, hz⟩ : ∃ z, z = numD (codes s) := ⟨_, rfl⟩
  rw [← hz] at HNUM ⊢
  rw [HLEN.out]
  clear hz HLEN hsg
  clear hrr h1 hL hlt
  have hSp := str_pos hr
  have hSc : codes (str r) = r := codes_str hrlt
  have hSs : (str r).size = r.length := str_size r
  have CC : ∀ w', Below w.heap.size w w' → Calls Tryz.prog 21 #[.string (str r), .string ⟨#[46]⟩] w' (RetVal w' (.tuple #[.string (str (ahd r)), .string (str (bhd r)), .bool (dotB r)])) := fun w' hb' => by
    have e := scut_any (str r) w' (by omega) (hm.on hb')
    rw [hSc] at e; exact e
  obtain ⟨S, hS⟩ : ∃ S, S = str r := ⟨_, rfl⟩
  rw [← hS] at CG CC hSp
  clear hS hSc hSs
  obtain ⟨he1, he2, he3, he4⟩ := str_ne hSp
  have hPp := str_pos ha
  have hPc : codes (str (ahd r)) = ahd r := codes_str (fun c hc => hrlt c (ahd_sub _ c hc))
  have hPs : (str (ahd r)).size = (ahd r).length := str_size _
  have hab := ahd_bhd_len r
  have CU : ∀ w', Below w.heap.size w w' → Calls Tryz.prog 22 #[.string (str (ahd r))] w' (RetVal w' (.tuple #[.string (str (nocom (ahd r))), .bool true])) := fun w' hb' => by
    have e := ungrouped_any (str (ahd r)) w' hPp (by omega) (hm.on hb')
    rw [hPc, ungS_yes hu, hu] at e; exact e
  have hne := nocom_ne ha hu
  have hdl := digsOf_len r
  have hadd : ∀ w', (Op.stringOp .add (str (nocom (ahd r))) (str (bhd r))).run Tryz.prog w' = .ok (.string (str (digsOf r))) w' := fun w' => str_add _ _ (by have := nocom_len (ahd r); omega) w'
  have hVc : codes (str (digsOf r)) = digsOf r := codes_str (app_lt (fun c hc => hrlt c (ahd_sub _ c (nocom_sub _ c hc))) (fun c hc => hrlt c (bhd_sub _ c hc)))
  have hVs : (str (digsOf r)).size = (digsOf r).length := str_size _
  have hVp : 0 < (str (digsOf r)).size := by
    rw [hVs]; unfold digsOf; rw [List.length_append]
    have := List.length_pos_iff.2 hne
    omega
  have CP : ∀ w', Calls Tryz.prog 23 #[.string (str (digsOf r))] w' (RetParse w' (digsOf r)) := fun w' => by
    have e := parse_any (str (digsOf r)) w' hVp (by omega)
    rw [hVc] at e; exact e
  obtain ⟨V, hV⟩ : ∃ V, V = str (digsOf r) := ⟨_, rfl⟩
  obtain ⟨U, hU⟩ : ∃ U, U = str (nocom (ahd r)) := ⟨_, rfl⟩
  rw [← hV, ← hU] at hadd
  rw [← hV] at CP
  rw [← hU] at CU
  clear hV hU hVp hVs hVc hdl hne
  have HG := Lib.hid hg
  have CPH := Lib.hid CP
  clear hg CP
  rw [hd] at CC
  have hb := bhd_nil hd
  have HQS := Lib.hid (str_size (bhd r))
  have hQl : (bhd r).length ≤ 1000 := by omega
  obtain ⟨P, hP⟩ : ∃ P, P = str (ahd r) := ⟨_, rfl⟩
  obtain ⟨Q, hQ⟩ : ∃ Q, Q = str (bhd r) := ⟨_, rfl⟩
  rw [← hP] at CC CU hPp
  rw [← hQ] at CC HQS hadd
  have HQ := Lib.hid hQ
  have HBN := Lib.hid hb
  clear hP hQ hPc hPs hab hd hu ha hr hrlt hrl hb
  obtain ⟨hf1, hf2, hf3, hf4⟩ := str_ne hPp
  have CUH := Lib.hid CU
  clear CU
  have CCH := Lib.hid CC
  clear CC
  have CGH := Lib.hid CG
  clear CG
  go_enter Tryz.func6, Tryz.ntmps6
  go_wp2_with fail
  generalize hW : World.alloc w _ = W0
  have E0 : St w W0 [] [(w.heap.size, .bool false, .slice none 0 0, .int .i64 0)] := by rw [← hW]; exact (St.start w (l := []) (fun q hq => absurd hq List.not_mem_nil)).lay rfl
  have E := Lib.hid E0
  clear hW E0
  refine (CGH.out _).mono ?_; rintro e w1 ⟨rfl, hb1⟩; replace E := Lib.hid (St.step E.out hb1); clear hb1
  go_wp2_with fail
  refine (CCH.out _ E.out.bel).mono ?_; rintro e w2 ⟨rfl, hb1⟩; replace E := Lib.hid (St.step E.out hb1); clear hb1
  go_wp2_with fail
  refine (CUH.out _ E.out.bel).mono ?_; rintro e w3 ⟨rfl, hb1⟩; replace E := Lib.hid (St.step E.out hb1); clear hb1
  go_wp2_with fail
  clear hadd
  refine (CPH.out _).mono ?_
  rintro e w4 (⟨-, A4, n4, c4, rfl, h4, hb1⟩ | ⟨hd, -⟩)
  rotate_left
  · exact absurd HG.out hd
  replace E := Lib.hid (St.push E.out hb1 h4)
  have HP := Lib.hid (num_pos h4)
  clear hb1 h4
  obtain ⟨r0, r1, r2, rf0, rf1, rf2, rlt⟩ := St.at_ (x0 := .bool false) (x1 := .slice none 0 0) (x2 := .int .i64 0) (g := w.heap.size) E (by simp)
  go_wp2_with fail
  have EF := Lib.hid (St.store E.out (g := w.heap.size) (x0 := .bool false) (x1 := .slice none 0 0) (x2 := .int .i64 0) (by simp) (noLimb_bool _) (noLimb_slice _ _ _) (noLimb_int _) [] (fun q hq => by cases hq) (.bool (decide (0 < n4))) (.slice A4 n4 c4) (.int .i64 (Q.size : Int)))
  obtain ⟨e0, e1, e2, _, _, _, _⟩ := St.at_ (x0 := .bool (decide (0 < n4))) (x1 := .slice A4 n4 c4) (x2 := .int .i64 (Q.size : Int)) (g := w.heap.size) EF (by simp)
  exact bodyPost_ret (v := .tuple #[.agg #[.bool (decide (0 < n4)), .slice A4 n4 c4, .int .i64 (Q.size : Int)], .int .i64 0]) (by simp [results, Tryz.results6, go_sem, e0, e1, e2]) rfl ⟨A4, n4, c4, by rw [HNUM.out, ng_sgn, HQS.out, HP.out]; simp, by rw [HNUM.out, abs_sgn]; exact St.got EF (by simp), EF.out.bel⟩

set_option maxRecDepth 100000 in
set_option maxHeartbeats 2000000 in
theorem read_okpw (s : ByteArray) (w : World) (hs : s.size ≤ 1000) (hm : MaxLen w) (hr : rst (codes s) ≠ []) (ha : ahd (rst (codes s)) ≠ []) (hd : dotB (rst (codes s)) = false) (hu : ungB (ahd (rst (codes s))) = true) (hg : digs (digsOf (rst (codes s)))) (hsg : sgnB (codes s) = false) :
    Calls Tryz.prog 6 #[.string s] w (RetDecE w (numD (codes s)) (bhd (rst (codes s))).length) := by
  have hlt : ∀ c ∈ codes s, c < 256 := codes_lt s
  have hL := codes_len s
  have CG : ∀ w', Calls Tryz.prog 20 #[.string s] w' (RetVal w' (.tuple #[.bool (sgnB (codes s)), .string (str (rst (codes s)))])) := fun w' => signed_any s w' (by omega)
  have h1 := rst_len (codes s)
  obtain ⟨r, hrr⟩ : ∃ r, r = rst (codes s) := ⟨_, rfl⟩
  have hrlt : ∀ c ∈ r, c < 256 := by rw [hrr]; exact fun c hc => hlt c (rst_sub _ c hc)
  have hrl : r.length ≤ 1000 := by rw [hrr]; omega
  have HNUM : Hid (numD (codes s) = sgn false (pv (digsOf r))) := by show _ = _; unfold numD sgn; rw [hsg, ← hrr]
  have HLEN : Hid ((bhd (rst (codes s))).length = (bhd r).length) := by rw [hrr]; rfl
  rw [hsg] at CG
  rw [← hrr] at CG hr ha
  rw [← hrr] at hd hu hg
  obtain ⟨z, hz⟩ : ∃ z, z = numD (codes s) := ⟨_, rfl⟩
  rw [← hz] at HNUM ⊢
  rw [HLEN.out]
  clear hz HLEN hsg
  clear hrr h1 hL hlt
  have hSp := str_pos hr
  have hSc : codes (str r) = r := codes_str hrlt
  have hSs : (str r).size = r.length := str_size r
  have CC : ∀ w', Below w.heap.size w w' → Calls Tryz.prog 21 #[.string (str r), .string ⟨#[46]⟩] w' (RetVal w' (.tuple #[.string (str (ahd r)), .string (str (bhd r)), .bool (dotB r)])) := fun w' hb' => by
    have e := scut_any (str r) w' (by omega) (hm.on hb')
    rw [hSc] at e; exact e
  obtain ⟨S, hS⟩ : ∃ S, S = str r := ⟨_, rfl⟩
  rw [← hS] at CG CC hSp
  clear hS hSc hSs
  obtain ⟨he1, he2, he3, he4⟩ := str_ne hSp
  have hPp := str_pos ha
  have hPc : codes (str (ahd r)) = ahd r := codes_str (fun c hc => hrlt c (ahd_sub _ c hc))
  have hPs : (str (ahd r)).size = (ahd r).length := str_size _
  have hab := ahd_bhd_len r
  have CU : ∀ w', Below w.heap.size w w' → Calls Tryz.prog 22 #[.string (str (ahd r))] w' (RetVal w' (.tuple #[.string (str (nocom (ahd r))), .bool true])) := fun w' hb' => by
    have e := ungrouped_any (str (ahd r)) w' hPp (by omega) (hm.on hb')
    rw [hPc, ungS_yes hu, hu] at e; exact e
  have hne := nocom_ne ha hu
  have hdl := digsOf_len r
  have hadd : ∀ w', (Op.stringOp .add (str (nocom (ahd r))) (str (bhd r))).run Tryz.prog w' = .ok (.string (str (digsOf r))) w' := fun w' => str_add _ _ (by have := nocom_len (ahd r); omega) w'
  have hVc : codes (str (digsOf r)) = digsOf r := codes_str (app_lt (fun c hc => hrlt c (ahd_sub _ c (nocom_sub _ c hc))) (fun c hc => hrlt c (bhd_sub _ c hc)))
  have hVs : (str (digsOf r)).size = (digsOf r).length := str_size _
  have hVp : 0 < (str (digsOf r)).size := by
    rw [hVs]; unfold digsOf; rw [List.length_append]
    have := List.length_pos_iff.2 hne
    omega
  have CP : ∀ w', Calls Tryz.prog 23 #[.string (str (digsOf r))] w' (RetParse w' (digsOf r)) := fun w' => by
    have e := parse_any (str (digsOf r)) w' hVp (by omega)
    rw [hVc] at e; exact e
  obtain ⟨V, hV⟩ : ∃ V, V = str (digsOf r) := ⟨_, rfl⟩
  obtain ⟨U, hU⟩ : ∃ U, U = str (nocom (ahd r)) := ⟨_, rfl⟩
  rw [← hV, ← hU] at hadd
  rw [← hV] at CP
  rw [← hU] at CU
  clear hV hU hVp hVs hVc hdl hne
  have HG := Lib.hid hg
  have CPH := Lib.hid CP
  clear hg CP
  rw [hd] at CC
  have hb := bhd_nil hd
  have HQS := Lib.hid (str_size (bhd r))
  have hQl : (bhd r).length ≤ 1000 := by omega
  obtain ⟨P, hP⟩ : ∃ P, P = str (ahd r) := ⟨_, rfl⟩
  obtain ⟨Q, hQ⟩ : ∃ Q, Q = str (bhd r) := ⟨_, rfl⟩
  rw [← hP] at CC CU hPp
  rw [← hQ] at CC HQS hadd
  have HQ := Lib.hid hQ
  have HBN := Lib.hid hb
  clear hP hQ hPc hPs hab hd hu ha hr hrlt hrl hb
  obtain ⟨hf1, hf2, hf3, hf4⟩ := str_ne hPp
  have CUH := Lib.hid CU
  clear CU
  have CCH := Lib.hid CC
  clear CC
  have CGH := Lib.hid CG
  clear CG
  go_enter Tryz.func6, Tryz.ntmps6
  go_wp2_with fail
  generalize hW : World.alloc w _ = W0
  have E0 : St w W0 [] [(w.heap.size, .bool false, .slice none 0 0, .int .i64 0)] := by rw [← hW]; exact (St.start w (l := []) (fun q hq => absurd hq List.not_mem_nil)).lay rfl
  have E := Lib.hid E0
  clear hW E0
  refine (CGH.out _).mono ?_; rintro e w1 ⟨rfl, hb1⟩; replace E := Lib.hid (St.step E.out hb1); clear hb1
  go_wp2_with fail
  refine (CCH.out _ E.out.bel).mono ?_; rintro e w2 ⟨rfl, hb1⟩; replace E := Lib.hid (St.step E.out hb1); clear hb1
  go_wp2_with fail
  refine (CUH.out _ E.out.bel).mono ?_; rintro e w3 ⟨rfl, hb1⟩; replace E := Lib.hid (St.step E.out hb1); clear hb1
  go_wp2_with fail
  clear hadd
  refine (CPH.out _).mono ?_
  rintro e w4 (⟨-, A4, n4, c4, rfl, h4, hb1⟩ | ⟨hd, -⟩)
  rotate_left
  · exact absurd HG.out hd
  replace E := Lib.hid (St.push E.out hb1 h4)
  have HP := Lib.hid (num_pos h4)
  clear hb1 h4
  obtain ⟨r0, r1, r2, rf0, rf1, rf2, rlt⟩ := St.at_ (x0 := .bool false) (x1 := .slice none 0 0) (x2 := .int .i64 0) (g := w.heap.size) E (by simp)
  go_wp2_with fail
  have EF := Lib.hid (St.store E.out (g := w.heap.size) (x0 := .bool false) (x1 := .slice none 0 0) (x2 := .int .i64 0) (by simp) (noLimb_bool _) (noLimb_slice _ _ _) (noLimb_int _) [] (fun q hq => by cases hq) (.bool false) (.slice A4 n4 c4) (.int .i64 (Q.size : Int)))
  obtain ⟨e0, e1, e2, _, _, _, _⟩ := St.at_ (x0 := .bool false) (x1 := .slice A4 n4 c4) (x2 := .int .i64 (Q.size : Int)) (g := w.heap.size) EF (by simp)
  exact bodyPost_ret (v := .tuple #[.agg #[.bool false, .slice A4 n4 c4, .int .i64 (Q.size : Int)], .int .i64 0]) (by simp [results, Tryz.results6, go_sem, e0, e1, e2]) rfl ⟨A4, n4, c4, by rw [HNUM.out, ng_sgn, HQS.out]; simp, by rw [HNUM.out, abs_sgn]; exact St.got EF (by simp), EF.out.bel⟩

/-- What Parse answers of any text. -/
def RetRead (W : World) (l : List Nat) (e : Ending) (w' : World) : Prop :=
  (rst l = [] ∧ RetErr W 2 e w') ∨ (rst l ≠ [] ∧ frmB (rst l) = false ∧ RetErr W 3 e w') ∨ (rst l ≠ [] ∧ frmB (rst l) = true ∧ RetDecE W (numD l) (bhd (rst l)).length e w')
theorem frm_parts (l : List Nat) : frmB l = ((ahd l != []) && !(dotB l && bhd l == []) && ungB (ahd l) && dgB (digsOf l)) := rfl
theorem read_any (s : ByteArray) (w : World) (hs : s.size ≤ 1000) (hm : MaxLen w) : Calls Tryz.prog 6 #[.string s] w (RetRead w (codes s)) := by
  by_cases hr : rst (codes s) = []
  · exact (read_short s w hs hm hr).mono fun e w' h => .inl ⟨hr, h⟩
  have hf := frm_parts (rst (codes s))
  by_cases ha : ahd (rst (codes s)) = []
  · exact (read_noahd s w hs hm hr ha).mono fun e w' h => .inr (.inl ⟨hr, by rw [hf, ha]; rfl, h⟩)
  have ha' : (ahd (rst (codes s)) != []) = true := by simpa using ha
  cases hd : dotB (rst (codes s)) with
  | true =>
    by_cases hb : bhd (rst (codes s)) = []
    · exact (read_dotonly s w hs hm hr ha hd hb).mono fun e w' h => .inr (.inl ⟨hr, by rw [hf, hd, hb, ha']; rfl, h⟩)
    have hb' : (bhd (rst (codes s)) == []) = false := by simpa using hb
    cases hu : ungB (ahd (rst (codes s))) with
    | false => exact (read_ungd s w hs hm hr ha hd hb hu).mono fun e w' h => .inr (.inl ⟨hr, by rw [hf, hd, hb', ha', hu]; rfl, h⟩)
    | true =>
      by_cases hg : digs (digsOf (rst (codes s)))
      · have hfr : frmB (rst (codes s)) = true := by rw [hf, hd, hb', ha', hu, dgB_iff.2 hg]; rfl
        cases hsg : sgnB (codes s) with
        | true => exact (read_okmd s w hs hm hr ha hd hb hu hg hsg).mono fun e w' h => .inr (.inr ⟨hr, hfr, h⟩)
        | false => exact (read_okpd s w hs hm hr ha hd hb hu hg hsg).mono fun e w' h => .inr (.inr ⟨hr, hfr, h⟩)
      · have hg' : dgB (digsOf (rst (codes s))) = false := by
          cases hx : dgB (digsOf (rst (codes s))) with
          | false => rfl
          | true => exact absurd (dgB_iff.1 hx) hg
        exact (read_digd s w hs hm hr ha hd hb hu hg).mono fun e w' h => .inr (.inl ⟨hr, by rw [hf, hg', Bool.and_false], h⟩)
  | false =>
    cases hu : ungB (ahd (rst (codes s))) with
    | false => exact (read_ungw s w hs hm hr ha hd hu).mono fun e w' h => .inr (.inl ⟨hr, by rw [hf, hd, ha', hu]; rfl, h⟩)
    | true =>
      by_cases hg : digs (digsOf (rst (codes s)))
      · have hfr : frmB (rst (codes s)) = true := by rw [hf, hd, ha', hu, dgB_iff.2 hg]; rfl
        cases hsg : sgnB (codes s) with
        | true => exact (read_okmw s w hs hm hr ha hd hu hg hsg).mono fun e w' h => .inr (.inr ⟨hr, hfr, h⟩)
        | false => exact (read_okpw s w hs hm hr ha hd hu hg hsg).mono fun e w' h => .inr (.inr ⟨hr, hfr, h⟩)
      · have hg' : dgB (digsOf (rst (codes s))) = false := by
          cases hx : dgB (digsOf (rst (codes s))) with
          | false => rfl
          | true => exact absurd (dgB_iff.1 hx) hg
        exact (read_digw s w hs hm hr ha hd hu hg).mono fun e w' h => .inr (.inl ⟨hr, by rw [hf, hg', Bool.and_false], h⟩)

end Go.Proofs.YtllcjahekckbfaaGreatDoor
