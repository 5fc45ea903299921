/- gyreref.Mul answers 'mul'; fx.Div and gyreref.Div answer 'div', whatever the numbers. -/
import Derived.Test.YtpegjobehdihbaaWide
namespace Go.Proofs.Ytpegjobehdihbaa
open Go.ChangeShapes Go.WideShapes Go.ChangeAt Go.RowKit

theorem sgn_mul_bounds (a b n : Int) (h : -70368744177664 ≤ n) (k : n ≤ 70368744177664) : -70368744177664 ≤ sgn a * sgn b * n ∧ sgn a * sgn b * n ≤ 70368744177664 := by
  rcases sgn_cases a b with e | e
  · rw [e]; omega
  · rw [e]; omega
theorem sgn_bounds (a b : Int) : -1 ≤ sgn a * sgn b ∧ sgn a * sgn b ≤ 1 := by rcases sgn_cases a b with e | e <;> omega

set_option maxHeartbeats 1000000 in
theorem div_calls (a b : Int) (w : World) : Calls Try.prog 24 #[.int .i64 a, .int .i64 b] w fun e w' => e = .returned (.int .i64 (div a b)) ∧ Kept w w' := by
  have a1 := cut_le a; have a2 := cut_ge a; have b1 := cut_le b; have b2 := cut_ge b
  by_cases z : cut b = 0
  · have F := div_zero (a := a) z
    have HF : Hid _ := F
    have z' : (cut b == 0) = true := by simpa using z
    clear z F
    go_enter Try.func24, Try.ntmps24
    go_wp2_with fail
    refine (cut_calls _ _).mono ?_; rintro e w1 ⟨rfl, k1⟩
    go_wp2_with fail
    refine (cut_calls _ _).mono ?_; rintro e w2 ⟨rfl, k2⟩
    go_wp2_with fail
    refine (endless_calls _ _).mono ?_; rintro e w3 ⟨rfl, rfl⟩
    go_wp2_with fail
    go_ret
    exact ⟨ret_int HF.out.symm, kept_two k1 k2⟩
  · have F := div_else (a := a) z
    have HF : Hid _ := F
    have z' : (cut b == 0) = false := by simpa using z
    obtain ⟨t1, t2⟩ := tdiv_bounds a2 a1 z
    clear F
    go_enter Try.func24, Try.ntmps24
    go_wp2_with fail
    refine (cut_calls _ _).mono ?_; rintro e w1 ⟨rfl, k1⟩
    go_wp2_with fail
    refine (cut_calls _ _).mono ?_; rintro e w2 ⟨rfl, k2⟩
    go_wp2_with fail
    refine (cut_calls _ _).mono ?_; rintro e w3 ⟨rfl, k3⟩
    go_wp2_with fail
    go_ret
    exact ⟨ret_int HF.out.symm, kept_three k1 k2 k3⟩

theorem sgn_one (a : Int) : -1 ≤ sgn a ∧ sgn a ≤ 1 := by unfold sgn; split <;> omega

end Go.Proofs.Ytpegjobehdihbaa
