/- fx.Add, fx.Sub, fx.size, fx.endless, bits.Mul64 and gyreref's Add, Sub, abs answer what Math.lean says. -/
import Derived.Test.YtpegjobehdihbaaCut
namespace Go.Proofs.Ytpegjobehdihbaa
open Go.ChangeShapes Go.WideShapes Go.ChangeAt Go.RowKit

theorem kept_two {a b c : World} (h : Kept a b) (k : Kept b c) : Kept a c := h.trans k
theorem kept_three {a b c d : World} (h : Kept a b) (k : Kept b c) (l : Kept c d) : Kept a d := (h.trans k).trans l

theorem add_calls (a b : Int) (w : World) : Calls Try.prog 21 #[.int .i64 a, .int .i64 b] w fun e w' => e = .returned (.int .i64 (add a b)) ∧ Kept w w' := by
  have a1 := cut_le a; have a2 := cut_ge a; have b1 := cut_le b; have b2 := cut_ge b
  go_enter Try.func21, Try.ntmps21
  go_wp2_with fail
  refine (cut_calls _ _).mono ?_; rintro e w1 ⟨rfl, k1⟩
  go_wp2_with fail
  refine (cut_calls _ _).mono ?_; rintro e w2 ⟨rfl, k2⟩
  go_wp2_with fail
  refine (cut_calls _ _).mono ?_; rintro e w3 ⟨rfl, k3⟩
  go_wp2_with fail
  go_ret
  exact ⟨rfl, kept_three k1 k2 k3⟩
theorem sub_calls (a b : Int) (w : World) : Calls Try.prog 31 #[.int .i64 a, .int .i64 b] w fun e w' => e = .returned (.int .i64 (sub a b)) ∧ Kept w w' := by
  have a1 := cut_le a; have a2 := cut_ge a; have b1 := cut_le b; have b2 := cut_ge b
  go_enter Try.func31, Try.ntmps31
  go_wp2_with fail
  refine (cut_calls _ _).mono ?_; rintro e w1 ⟨rfl, k1⟩
  go_wp2_with fail
  refine (cut_calls _ _).mono ?_; rintro e w2 ⟨rfl, k2⟩
  go_wp2_with fail
  refine (cut_calls _ _).mono ?_; rintro e w3 ⟨rfl, k3⟩
  go_wp2_with fail
  go_ret
  exact ⟨rfl, kept_three k1 k2 k3⟩
theorem size_calls (n : Int) (w : World) (h : -70368744177664 ≤ n) (k : n ≤ 70368744177664) : Calls Try.prog 38 #[.int .i64 n] w fun e w' => e = .returned (.int .u64 (absI n)) ∧ w' = w := by
  by_cases c : n < 0
  · rw [absI_neg c]
    go_enter Try.func38, Try.ntmps38
    go_wp2
    go_ret
    exact ⟨rfl, rfl⟩
  · rw [absI_pos c]
    go_enter Try.func38, Try.ntmps38
    go_wp2
    go_ret
    exact ⟨rfl, rfl⟩
theorem endless_calls (a : Int) (w : World) : Calls Try.prog 36 #[.int .i64 a] w fun e w' => e = .returned (.int .i64 (endless a)) ∧ w' = w := by
  unfold endless
  by_cases c : 0 < a
  · rw [if_pos c]
    go_enter Try.func36, Try.ntmps36
    go_wp2
    go_ret
    exact ⟨rfl, rfl⟩
  · rw [if_neg c]
    by_cases d : a < 0
    · rw [if_pos d]
      go_enter Try.func36, Try.ntmps36
      go_wp2
      go_ret
      exact ⟨rfl, rfl⟩
    · rw [if_neg d]
      go_enter Try.func36, Try.ntmps36
      go_wp2
      go_ret
      exact ⟨rfl, rfl⟩
end Go.Proofs.Ytpegjobehdihbaa
