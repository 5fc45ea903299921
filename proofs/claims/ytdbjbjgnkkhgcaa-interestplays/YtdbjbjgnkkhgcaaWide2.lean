/- gyreref.Mul answers 'mul'; fx.Div and gyreref.Div answer 'div', whatever the numbers. -/
import Derived.Test.YtdbjbjgnkkhgcaaWide
namespace Go.Proofs.Ytdbjbjgnkkhgcaa
open Go.ChangeShapes Go.WideShapes Go.ChangeAt Go.RowKit

theorem sgn_mul_bounds (a b n : Int) (h : -70368744177664 ≤ n) (k : n ≤ 70368744177664) : -70368744177664 ≤ sgn a * sgn b * n ∧ sgn a * sgn b * n ≤ 70368744177664 := by
  rcases sgn_cases a b with e | e
  · rw [e]; omega
  · rw [e]; omega
theorem sgn_bounds (a b : Int) : -1 ≤ sgn a * sgn b ∧ sgn a * sgn b ≤ 1 := by rcases sgn_cases a b with e | e <;> omega

theorem sgn_one (a : Int) : -1 ≤ sgn a ∧ sgn a ≤ 1 := by unfold sgn; split <;> omega

end Go.Proofs.Ytdbjbjgnkkhgcaa
