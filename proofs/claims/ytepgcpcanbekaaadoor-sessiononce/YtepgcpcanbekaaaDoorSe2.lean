/- session.New and Take: whichever numbers. -/
import Derived.Test.YtepgcpcanbekaaaDoorSe1
namespace Go.Proofs.YtepgcpcanbekaaaDoor
open Go.ChangeShapes Go.WideShapes Go.ChangeAt Go.RowKit
set_option linter.unusedVariables false
set_option linter.unusedSimpArgs false

def eV (c : Int) : Value := if c = 0 then .nilIface else .iface 40 (.int .i64 c)
/-- What Take answers. -/
def takeC (s : Se) (tok n : Int) : Int :=
  if tok ≠ s.tok then 5 else if ¬ (0 ≤ n ∧ n ≤ 70368744177664) then 2 else if n ≤ s.newest - 64 then 10 else if hasM s n then 9 else if s.left = 0 then 4 else 0
/-- .. and what the session is then. -/
def takeM (s : Se) (tok n : Int) : Se := if takeC s tok n = 0 then keepM { s with left := s.left - 1 } n else s
set_option maxRecDepth 100000 in
theorem takeS_calls (x : Nat) (s : Se) (tok n : Int) (w : World) (h : SeAt w x s) (ok : SeOk s) : Calls Tryd.prog 9 #[.pointer (some ⟨x, 0, none⟩), .int .i64 tok, .int .i64 n] w fun e w' => e = .returned (eV (takeC s tok n)) ∧ SeAt w' x (takeM s tok n) ∧ Only [x] w w' := by
  have c0 := h.c0; have c3 := h.c3; have c4 := h.c4
  have H : Hid (SeAt w x s ∧ SeOk s) := ⟨h, ok⟩
  have hn0 := ok.n0; have hn1 := ok.n1; have hl0 := ok.l0; have hl1 := ok.l1; have hm1 := ok.m1
  clear h ok
  by_cases h1 : tok = s.tok
  case neg =>
    have e : takeC s tok n = 5 := if_pos h1
    have hb : (tok == s.tok) = false := by simpa using h1
    rw [e, show takeM s tok n = s by unfold takeM; rw [e]; rfl]
    go_enter Tryd.func9, Tryd.ntmps9
    go_wp2_with fail
    go_ret
    exact ⟨rfl, H.out.1, Only.refl _ _⟩
  by_cases h2 : 0 ≤ n ∧ n ≤ 70368744177664
  case neg =>
    have e : takeC s tok n = 2 := by unfold takeC; rw [if_neg (by simp [h1]), if_pos h2]
    have hd : decide (0 ≤ n ∧ n ≤ 70368744177664) = false := by simpa using h2
    have hb : (tok == s.tok) = true := by simpa using h1
    rw [e, show takeM s tok n = s by unfold takeM; rw [e]; rfl]
    clear h1
    go_enter Tryd.func9, Tryd.ntmps9
    go_wp2_with fail
    refine (upTo_calls n _ w).mono ?_
    rintro e w1 ⟨rfl, rfl⟩
    rw [hd]
    go_wp2_with fail
    go_ret
    exact ⟨rfl, H.out.1, Only.refl _ _⟩
  by_cases h3 : n ≤ s.newest - 64
  case pos =>
    have e : takeC s tok n = 10 := by unfold takeC; rw [if_neg (by simp [h1]), if_neg (by simp [h2]), if_pos h3]
    have hd : decide (0 ≤ n ∧ n ≤ 70368744177664) = true := by simpa using h2
    have hb : (tok == s.tok) = true := by simpa using h1
    rw [e, show takeM s tok n = s by unfold takeM; rw [e]; rfl]
    clear h1
    go_enter Tryd.func9, Tryd.ntmps9
    go_wp2_with fail
    refine (upTo_calls n _ w).mono ?_
    rintro e w1 ⟨rfl, rfl⟩
    rw [hd]
    go_wp2_with fail
    go_ret
    exact ⟨rfl, H.out.1, Only.refl _ _⟩
  by_cases h4 : hasM s n = true
  case pos =>
    have e : takeC s tok n = 9 := by unfold takeC; rw [if_neg (by simp [h1]), if_neg (by simp [h2]), if_neg h3, if_pos h4]
    have hd : decide (0 ≤ n ∧ n ≤ 70368744177664) = true := by simpa using h2
    have hb : (tok == s.tok) = true := by simpa using h1
    rw [e, show takeM s tok n = s by unfold takeM; rw [e]; rfl]
    clear h1
    go_enter Tryd.func9, Tryd.ntmps9
    go_wp2_with fail
    refine (upTo_calls n _ w).mono ?_
    rintro e w1 ⟨rfl, rfl⟩
    rw [hd]
    go_wp2_with fail
    refine (has_calls x s n w1 H.out.1 H.out.2 (by omega)).mono ?_
    rintro e w2 ⟨rfl, h5, o5⟩
    have H2 : Hid (SeAt w2 x s ∧ Only [x] w1 w2) := ⟨h5, o5⟩
    clear h5 o5
    rw [h4]
    go_wp2_with fail
    go_ret
    exact ⟨rfl, H2.out.1, H2.out.2⟩
  have h4' : hasM s n = false := by simpa using h4
  have hd : decide (0 ≤ n ∧ n ≤ 70368744177664) = true := by simpa using h2
  have hb : (tok == s.tok) = true := by simpa using h1
  by_cases h6 : s.left = 0
  case pos =>
    have e : takeC s tok n = 4 := by unfold takeC; rw [if_neg (by simp [h1]), if_neg (by simp [h2]), if_neg h3, if_neg h4, if_pos h6]
    have hz : (s.left == 0) = true := by simpa using h6
    rw [e, show takeM s tok n = s by unfold takeM; rw [e]; rfl]
    clear h1 h6 h4
    go_enter Tryd.func9, Tryd.ntmps9
    go_wp2_with fail
    refine (upTo_calls n _ w).mono ?_
    rintro e w1 ⟨rfl, rfl⟩
    rw [hd]
    go_wp2_with fail
    refine (has_calls x s n w1 H.out.1 H.out.2 (by omega)).mono ?_
    rintro e w2 ⟨rfl, h5, o5⟩
    have H2 : Hid (SeAt w2 x s ∧ Only [x] w1 w2) := ⟨h5, o5⟩
    have c3 := h5.c3
    clear h5 o5
    rw [h4']
    go_wp2_with fail
    go_ret
    exact ⟨rfl, H2.out.1, H2.out.2⟩
  · have e : takeC s tok n = 0 := by unfold takeC; rw [if_neg (by simp [h1]), if_neg (by simp [h2]), if_neg h3, if_neg h4, if_neg h6]
    have hz : (s.left == 0) = false := by simpa using h6
    rw [e, show takeM s tok n = keepM { s with left := s.left - 1 } n by unfold takeM; rw [e]; rfl]
    have OK : Hid (SeOk { s with left := s.left - 1 }) := by
      obtain ⟨a1, a2, a3, a4, a5, a6, a7, a8, a9⟩ := H.out.2
      exact ⟨a1, a2, a3, a4, by show 0 ≤ s.left - 1; omega, by show s.left - 1 ≤ s.most; omega, a7, a8, a9⟩
    clear h1 h6 h4
    go_enter Tryd.func9, Tryd.ntmps9
    go_wp2_with fail
    refine (upTo_calls n _ w).mono ?_
    rintro e w1 ⟨rfl, rfl⟩
    rw [hd]
    go_wp2_with fail
    refine (has_calls x s n w1 H.out.1 H.out.2 (by omega)).mono ?_
    rintro e w2 ⟨rfl, h5, o5⟩
    have c3 := h5.c3
    have f3 := h5.free 3
    have H2 : Hid (SeAt (w2.setCell ⟨x, 3, none⟩ (.int .i64 (s.left - 1))) x { s with left := s.left - 1 } ∧ Only [x] w1 (w2.setCell ⟨x, 3, none⟩ (.int .i64 (s.left - 1)))) := ⟨h5.putLeft _, o5.setCell (p := ⟨x, 3, none⟩) (Or.inl (by simp)) _⟩
    clear h5 o5
    rw [h4']
    go_wp2_with fail
    refine (keepN_calls x _ n _ H2.out.1 OK.out (by show s.newest - 64 < n; omega) h2.1 h2.2).mono ?_
    rintro e w3 ⟨rfl, h7, o7⟩
    have H3 : Hid (SeAt w3 x (keepM { s with left := s.left - 1 } n) ∧ Only [x] w1 w3) := ⟨h7, H2.out.2.trans o7⟩
    clear h7 o7
    go_wp2_with fail
    go_ret
    exact ⟨rfl, H3.out.1, H3.out.2⟩
def newOk (tok most each : Int) : Prop := (0 ≤ tok ∧ tok ≤ 70368744177664) ∧ (0 ≤ most ∧ most ≤ 1000) ∧ (0 ≤ each ∧ each ≤ 1000)
theorem newS_wrong (tok most each : Int) (w : World) (h : ¬ newOk tok most each) : Calls Tryd.prog 6 #[.int .i64 tok, .agg #[.int .i64 most, .int .i64 each]] w fun e w' => e = .returned (.tuple #[.pointer none, eV 2]) ∧ Only [] w w' := by
  go_enter Tryd.func6, Tryd.ntmps6
  by_cases h1 : 0 ≤ tok ∧ tok ≤ 70368744177664
  · by_cases h2 : 0 ≤ most ∧ most ≤ 1000
    · have h3 : ¬ (0 ≤ each ∧ each ≤ 1000) := fun h3 => h ⟨h1, h2, h3⟩
      have d1 := decide_eq_true h1; have d2 := decide_eq_true h2; have d3 := decide_eq_false h3
      clear h h1 h2 h3
      go_wp2_with fail
      refine (upTo_calls _ _ _).mono ?_
      rintro e w1 ⟨rfl, rfl⟩
      rw [d1]
      go_wp2_with fail
      refine (upTo_calls _ _ _).mono ?_
      rintro e w1 ⟨rfl, rfl⟩
      rw [d2]
      go_wp2_with fail
      refine (upTo_calls _ _ _).mono ?_
      rintro e w1 ⟨rfl, rfl⟩
      rw [d3]
      go_wp2_with fail
      go_ret2
      exact ⟨rfl, (Only.refl [] w).alloc _⟩
    · have d1 := decide_eq_true h1; have d2 := decide_eq_false h2
      clear h h1 h2
      go_wp2_with fail
      refine (upTo_calls _ _ _).mono ?_
      rintro e w1 ⟨rfl, rfl⟩
      rw [d1]
      go_wp2_with fail
      refine (upTo_calls _ _ _).mono ?_
      rintro e w1 ⟨rfl, rfl⟩
      rw [d2]
      go_wp2_with fail
      go_ret2
      exact ⟨rfl, (Only.refl [] w).alloc _⟩
  · have d1 := decide_eq_false h1
    clear h h1
    go_wp2_with fail
    refine (upTo_calls _ _ _).mono ?_
    rintro e w1 ⟨rfl, rfl⟩
    rw [d1]
    go_wp2_with fail
    go_ret2
    exact ⟨rfl, (Only.refl [] w).alloc _⟩
theorem newS_right (tok most each : Int) (w : World) (h : newOk tok most each) : Calls Tryd.prog 6 #[.int .i64 tok, .agg #[.int .i64 most, .int .i64 each]] w fun e w' => ∃ x, e = .returned (.tuple #[.pointer (some ⟨x, 0, none⟩), .nilIface]) ∧ w.heap.size ≤ x ∧ SeAt w' x ⟨tok, most, each, most, -1, 0⟩ ∧ Only [] w w' := by
  go_enter Tryd.func6, Tryd.ntmps6
  have d1 := decide_eq_true h.1; have d2 := decide_eq_true h.2.1; have d3 := decide_eq_true h.2.2
  clear h
  go_wp2_with fail
  refine (upTo_calls _ _ _).mono ?_
  rintro e w1 ⟨rfl, rfl⟩
  rw [d1]
  go_wp2_with fail
  refine (upTo_calls _ _ _).mono ?_
  rintro e w1 ⟨rfl, rfl⟩
  rw [d2]
  go_wp2_with fail
  refine (upTo_calls _ _ _).mono ?_
  rintro e w1 ⟨rfl, rfl⟩
  rw [d3]
  go_wp2_with fail
  go_ret2
  refine ⟨_, rfl, ?_, ?_, ((Only.refl [] w).alloc _).alloc _⟩
  · simp
  · have := (MapKept.heap_alloc (w.alloc (.cells #[.int .i64 most, .int .i64 each] 30)) (.cells (seC ⟨tok, most, each, most, -1, 0⟩) 53)).1
    simpa [SeAt, seC] using this
end Go.Proofs.YtepgcpcanbekaaaDoor
