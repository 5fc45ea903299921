/- fx.Add, fx.Sub, fx.size, fx.endless, bits.Mul64 and gyreref's Add, Sub, abs answer what Math.lean says. -/
import Derived.Test.YtbfkloclmlnahaaCut
namespace Go.Proofs.Ytbfkloclmlnahaa
open Go.ChangeShapes Go.WideShapes Go.ChangeAt Go.RowKit

theorem kept_two {a b c : World} (h : Kept a b) (k : Kept b c) : Kept a c := h.trans k
theorem kept_three {a b c d : World} (h : Kept a b) (k : Kept b c) (l : Kept c d) : Kept a d := (h.trans k).trans l

theorem add_calls (a b : Int) (w : World) : Calls Try.prog 16 #[.int .i64 a, .int .i64 b] w fun e w' => e = .returned (.int .i64 (add a b)) ∧ Kept w w' := by
  have a1 := cut_le a; have a2 := cut_ge a; have b1 := cut_le b; have b2 := cut_ge b
  go_enter Try.func16, Try.ntmps16
  go_wp2_with fail
  refine (cut_calls _ _).mono ?_; rintro e w1 ⟨rfl, k1⟩
  go_wp2_with fail
  refine (cut_calls _ _).mono ?_; rintro e w2 ⟨rfl, k2⟩
  go_wp2_with fail
  refine (cut_calls _ _).mono ?_; rintro e w3 ⟨rfl, k3⟩
  go_wp2_with fail
  go_ret
  exact ⟨rfl, kept_three k1 k2 k3⟩
theorem sub_calls (a b : Int) (w : World) : Calls Try.prog 18 #[.int .i64 a, .int .i64 b] w fun e w' => e = .returned (.int .i64 (sub a b)) ∧ Kept w w' := by
  have a1 := cut_le a; have a2 := cut_ge a; have b1 := cut_le b; have b2 := cut_ge b
  go_enter Try.func18, Try.ntmps18
  go_wp2_with fail
  refine (cut_calls _ _).mono ?_; rintro e w1 ⟨rfl, k1⟩
  go_wp2_with fail
  refine (cut_calls _ _).mono ?_; rintro e w2 ⟨rfl, k2⟩
  go_wp2_with fail
  refine (cut_calls _ _).mono ?_; rintro e w3 ⟨rfl, k3⟩
  go_wp2_with fail
  go_ret
  exact ⟨rfl, kept_three k1 k2 k3⟩
theorem refAdd_calls (a b : Int) (w : World) : Calls Try.prog 17 #[.int .i64 a, .int .i64 b] w fun e w' => e = .returned (.int .i64 (add a b)) ∧ w' = w := by
  have a1 := cut_le a; have a2 := cut_ge a; have b1 := cut_le b; have b2 := cut_ge b
  go_enter Try.func17, Try.ntmps17
  go_wp2_with (go_at_call 15; refine (refCut_calls _ _).mono ?_; rintro e w1 ⟨rfl, rfl⟩)
  go_ret
  exact ⟨rfl, rfl⟩
theorem refSub_calls (a b : Int) (w : World) : Calls Try.prog 19 #[.int .i64 a, .int .i64 b] w fun e w' => e = .returned (.int .i64 (sub a b)) ∧ w' = w := by
  have a1 := cut_le a; have a2 := cut_ge a; have b1 := cut_le b; have b2 := cut_ge b
  go_enter Try.func19, Try.ntmps19
  go_wp2_with (go_at_call 15; refine (refCut_calls _ _).mono ?_; rintro e w1 ⟨rfl, rfl⟩)
  go_ret
  exact ⟨rfl, rfl⟩
theorem size_calls (n : Int) (w : World) (h : -70368744177664 ≤ n) (k : n ≤ 70368744177664) : Calls Try.prog 77 #[.int .i64 n] w fun e w' => e = .returned (.int .u64 (absI n)) ∧ w' = w := by
  by_cases c : n < 0
  · rw [absI_neg c]
    go_enter Try.func77, Try.ntmps77
    go_wp2
    go_ret
    exact ⟨rfl, rfl⟩
  · rw [absI_pos c]
    go_enter Try.func77, Try.ntmps77
    go_wp2
    go_ret
    exact ⟨rfl, rfl⟩
theorem abs_calls (n : Int) (w : World) : Calls Try.prog 78 #[.int .i64 n] w fun e w' => e = .returned (.tuple #[.int .u64 (absI (cut n)), .int .i64 (sgn (cut n))]) ∧ w' = w := by
  have a1 := cut_le n; have a2 := cut_ge n
  by_cases c : cut n < 0
  · rw [absI_neg c, sgn_neg c]
    go_enter Try.func78, Try.ntmps78
    go_wp2_with (go_at_call 15; refine (refCut_calls _ _).mono ?_; rintro e w1 ⟨rfl, rfl⟩)
    go_ret2
    exact ⟨rfl, rfl⟩
  · rw [absI_pos c, sgn_pos c]
    go_enter Try.func78, Try.ntmps78
    go_wp2_with (go_at_call 15; refine (refCut_calls _ _).mono ?_; rintro e w1 ⟨rfl, rfl⟩)
    go_ret2
    exact ⟨rfl, rfl⟩
theorem endless_calls (a : Int) (w : World) : Calls Try.prog 79 #[.int .i64 a] w fun e w' => e = .returned (.int .i64 (endless a)) ∧ w' = w := by
  unfold endless
  by_cases c : 0 < a
  · rw [if_pos c]
    go_enter Try.func79, Try.ntmps79
    go_wp2
    go_ret
    exact ⟨rfl, rfl⟩
  · rw [if_neg c]
    by_cases d : a < 0
    · rw [if_pos d]
      go_enter Try.func79, Try.ntmps79
      go_wp2
      go_ret
      exact ⟨rfl, rfl⟩
    · rw [if_neg d]
      go_enter Try.func79, Try.ntmps79
      go_wp2
      go_ret
      exact ⟨rfl, rfl⟩
end Go.Proofs.Ytbfkloclmlnahaa
