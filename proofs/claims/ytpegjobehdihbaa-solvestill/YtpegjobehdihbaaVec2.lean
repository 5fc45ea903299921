/- gyreref.each, and the closures of fx and gyreref, answer what they are handed: whatever the numbers. -/
import Derived.Test.YtpegjobehdihbaaVec
namespace Go.Proofs.Ytpegjobehdihbaa
open Go.ChangeShapes Go.WideShapes Go.ChangeAt Go.RowKit

theorem times1_calls (p : Addr) (k n : Int) (w : World) (hp : w.cell? p = some (.int .i64 k)) :
    Calls Try.prog 39 #[.int .i64 n, .pointer (some p)] w fun e w' => e = .returned (.int .i64 (mul n k)) ∧ Kept w w' := by
  go_enter Try.func39, Try.ntmps39
  go_wp2_with (go_at_call 25; refine (mul_calls _ _ _).mono ?_; rintro e w1 ⟨rfl, k1⟩)
  go_ret
  exact ⟨rfl, k1⟩
theorem unit1_calls (p : Addr) (k n : Int) (w : World) (hp : w.cell? p = some (.int .i64 k)) :
    Calls Try.prog 41 #[.int .i64 n, .pointer (some p)] w fun e w' => e = .returned (.int .i64 (div n k)) ∧ Kept w w' := by
  go_enter Try.func41, Try.ntmps41
  go_wp2_with (go_at_call 24; refine (div_calls _ _ _).mono ?_; rintro e w1 ⟨rfl, k1⟩)
  go_ret
  exact ⟨rfl, k1⟩
theorem within1_calls (p : Addr) (k n : Int) (w : World) (k0 : 0 ≤ k) (k1 : k ≤ 9223372036854775807) (hp : w.cell? p = some (.int .i64 k)) :
    Calls Try.prog 17 #[.int .i64 n, .pointer (some p)] w fun e w' => e = .returned (.int .i64 (cl k n)) ∧ Kept w w' := by
  by_cases h1 : k < n
  · rw [cl_hi h1]
    go_enter Try.func17, Try.ntmps17
    go_wp2
    go_ret
    exact ⟨rfl, Kept.refl _⟩
  · by_cases h2 : n < -k
    · rw [cl_lo h1 h2]
      go_enter Try.func17, Try.ntmps17
      go_wp2
      go_ret
      exact ⟨rfl, Kept.refl _⟩
    · rw [cl_in h1 h2]
      go_enter Try.func17, Try.ntmps17
      go_wp2
      go_ret
      exact ⟨rfl, Kept.refl _⟩
end Go.Proofs.Ytpegjobehdihbaa
