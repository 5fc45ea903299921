/- Of package bits: a Reader's Var and Int: whichever bytes; and that they read what was written: plain. -/
import Derived.Test.YtedhdmahdioboaaSg4
namespace Go.Proofs.Ytedhdmahdioboaa
open Go.ChangeShapes Go.WideShapes Go.ChangeAt Go.RowKit
set_option linter.unusedVariables false
set_option linter.unusedSimpArgs false

set_option maxRecDepth 100000 in
set_option maxHeartbeats 2000000 in
theorem rvar_calls (r : Nat) (a : Option Addr) (c : Nat) (L : List Nat) (p : Nat) (w : World) (h : RdAt w r a c L p) :
    Calls Try.prog 109 #[.pointer (some ⟨r, 0, none⟩)] w (RdPost r a c L ((numM 4611686018427387903 L p).1 : Nat) ((numM 4611686018427387903 L p).2.1 : Nat) (numM 4611686018427387903 L p).2.2 w) := by
  have H0 : Hid (RdAt w r a c L p) := h
  clear h
  go_enter Try.func109, Try.ntmps109
  go_wp2_with fail
  refine (show Calls Try.prog 132 #[.pointer (some ⟨r, 0, none⟩), .int .i64 4611686018427387903] w _ from number_calls r a c L p 4611686018427387903 w H0.out (by omega)).mono ?_
  rintro e w1 ⟨rfl, hr, o1⟩
  have H1 : Hid (RdPost r a c L ((numM 4611686018427387903 L p).1 : Nat) ((numM 4611686018427387903 L p).2.1 : Nat) (numM 4611686018427387903 L p).2.2 w (.returned (.tuple #[.int .i64 (((numM 4611686018427387903 L p).2.1 : Nat)), if ((numM 4611686018427387903 L p).1 : Int) = 0 then .nilIface else errV ((numM 4611686018427387903 L p).1 : Nat)])) w1) := ⟨rfl, hr, o1⟩
  clear hr o1 H0
  revert H1
  generalize (if ((numM 4611686018427387903 L p).1 : Int) = 0 then Value.nilIface else errV ((numM 4611686018427387903 L p).1 : Nat)) = ev
  intro H1
  go_wp2_with fail
  exact bodyPost_ret (v := .tuple #[.int .i64 (((numM 4611686018427387903 L p).2.1 : Nat)), ev]) (by simp [results, Try.results109, go_sem]) rfl H1.out
/-- What Int reads. -/
def intM (L : List Nat) (p : Nat) : Nat × Int × Nat := if (numM 2305843009213693952 L p).1 = 0 then (0, uncode (numM 2305843009213693952 L p).2.1, (numM 2305843009213693952 L p).2.2) else ((numM 2305843009213693952 L p).1, 0, p)
theorem gatherM_most (most : Nat) (l : List Nat) : ∀ (f i n p : Nat), n ≤ most → (gatherM most l f i n p).2.1 ≤ most := by
  intro f
  induction f with
  | zero => intro i n p h; exact Nat.zero_le _
  | succ f ih =>
    intro i n p h
    rw [gatherM_succ]
    split
    · exact Nat.zero_le _
    · split
      · exact Nat.zero_le _
      · split
        · exact Nat.zero_le _
        · rename_i q
          rw [Nat.not_lt, Nat.le_div_iff_mul_le (Nat.pow_pos (by omega))] at q
          split
          · show n + valB ((l.drop p).take 6) % 32 * 2 ^ (5 * i) ≤ most
            omega
          · exact ih _ _ _ (by omega)
theorem numM_most (most : Nat) (L : List Nat) (p : Nat) : (numM most L p).2.1 ≤ most := by
  unfold numM
  split
  · exact gatherM_most _ _ _ _ _ _ (Nat.zero_le _)
  · exact Nat.zero_le _
theorem numM_pos (most : Nat) (L : List Nat) (p : Nat) : (numM most L p).1 ≠ 0 → (numM most L p).2.2 = p := by
  unfold numM
  split
  · intro h; contradiction
  · intro _; rfl
set_option maxRecDepth 100000 in
set_option maxHeartbeats 2000000 in
theorem rint_calls (r : Nat) (a : Option Addr) (c : Nat) (L : List Nat) (p : Nat) (w : World) (h : RdAt w r a c L p) :
    Calls Try.prog 161 #[.pointer (some ⟨r, 0, none⟩)] w (RdPost r a c L ((intM L p).1 : Nat) (intM L p).2.1 (intM L p).2.2 w) := by
  have H0 : Hid (RdAt w r a c L p) := h
  clear h
  go_enter Try.func161, Try.ntmps161
  go_wp2_with fail
  refine (show Calls Try.prog 132 #[.pointer (some ⟨r, 0, none⟩), .int .i64 2305843009213693952] w _ from number_calls r a c L p 2305843009213693952 w H0.out (by omega)).mono ?_
  rintro e w1 ⟨rfl, hr, o1⟩
  have HI : Hid (intM L p = if (numM 2305843009213693952 L p).1 = 0 then (0, uncode (numM 2305843009213693952 L p).2.1, (numM 2305843009213693952 L p).2.2) else ((numM 2305843009213693952 L p).1, 0, p)) := rfl
  have HM : Hid ((numM 2305843009213693952 L p).2.1 ≤ 2305843009213693952 ∧ ((numM 2305843009213693952 L p).1 ≠ 0 → (numM 2305843009213693952 L p).2.2 = p)) := ⟨numM_most _ _ _, numM_pos _ _ _⟩
  revert HI HM hr
  generalize numM 2305843009213693952 L p = N
  obtain ⟨er, n, q⟩ := N
  intro hr HI HM
  simp only at hr ⊢
  by_cases he : er = 0
  · subst he
    have H2 : Hid (RdPost r a c L ((intM L p).1 : Nat) (intM L p).2.1 (intM L p).2.2 w (.returned (.tuple #[.int .i64 (uncode n), .nilIface])) w1) := by rw [HI.out, if_pos rfl]; exact ⟨rfl, hr, o1⟩
    have hn : (n : Int) ≤ 2305843009213693952 := by have := HM.out.1; simp only at this; omega
    clear hr o1 HI HM
    simp only [show (((0 : Nat) : Int) = 0) = True by simp, if_true]
    by_cases h2 : n % 2 = 1
    · have hb : (n : Int) % 2 = 1 := by omega
      have hu : uncode n = -((n : Int) / 2) - 1 := by unfold uncode; rw [if_pos h2]; omega
      rw [hu] at H2
      go_wp2_with fail
      exact bodyPost_ret (v := .tuple #[.int .i64 (-((n : Int) / 2) - 1), .nilIface]) (by simp [results, Try.results161, go_sem]) rfl H2.out
    · have hb : ¬ (n : Int) % 2 = 1 := by omega
      have hu : uncode n = (n : Int) / 2 := by unfold uncode; rw [if_neg h2]; omega
      rw [hu] at H2
      go_wp2_with fail
      exact bodyPost_ret (v := .tuple #[.int .i64 ((n : Int) / 2), .nilIface]) (by simp [results, Try.results161, go_sem]) rfl H2.out
  · have hei : ¬ ((er : Int) = 0) := by omega
    have H2 : Hid (RdPost r a c L ((intM L p).1 : Nat) (intM L p).2.1 (intM L p).2.2 w (.returned (.tuple #[.int .i64 0, errV (er : Int)])) w1) := by
      rw [HI.out, if_neg he]
      have := HM.out.2 he
      simp only at this
      rw [this] at hr
      refine ⟨?_, hr, o1⟩
      rw [if_neg hei]
    clear hr o1 HI HM
    simp only [hei, if_false, errV]
    go_wp2_with fail
    exact bodyPost_ret (v := .tuple #[.int .i64 0, errV (er : Int)]) (by simp [results, Try.results161, go_sem, errV]) rfl H2.out

/-! What was written is read again. -/
theorem numM_back (most n : Nat) (L a c : List Nat) (h : bitsOf L = a ++ varB n ++ c) (hn : n ≤ most) (hm : most < 2 ^ 62) : numM most L a.length = (0, n, a.length + (varB n).length) := by
  have e := gatherM_back most n 13 0 0 a c (by simpa using hn) (by omega) (piecesM_13 (by omega))
  rw [← h] at e
  unfold numM
  rw [e]
  simp
theorem intM_back (n : Int) (L a c : List Nat) (h : bitsOf L = a ++ varB (codeM n) ++ c) (hn : ¬ badInt n) : intM L a.length = (0, n, a.length + (varB (codeM n)).length) := by
  have e := numM_back 2305843009213693952 (codeM n) L a c h (by unfold codeM; unfold badInt at hn; split <;> omega) (by omega)
  unfold intM
  rw [e]
  simp [uncode_code]
end Go.Proofs.Ytedhdmahdioboaa
