/- gyreref.Mul answers 'mul'; fx.Div and gyreref.Div answer 'div', whatever the numbers. -/
import Derived.Test.YtbfkloclmlnahaaWide
namespace Go.Proofs.Ytbfkloclmlnahaa
open Go.ChangeShapes Go.WideShapes Go.ChangeAt Go.RowKit

theorem sgn_mul_bounds (a b n : Int) (h : -70368744177664 ≤ n) (k : n ≤ 70368744177664) : -70368744177664 ≤ sgn a * sgn b * n ∧ sgn a * sgn b * n ≤ 70368744177664 := by
  rcases sgn_cases a b with e | e
  · rw [e]; omega
  · rw [e]; omega
theorem sgn_bounds (a b : Int) : -1 ≤ sgn a * sgn b ∧ sgn a * sgn b ≤ 1 := by rcases sgn_cases a b with e | e <;> omega

set_option maxHeartbeats 1000000 in
theorem refMul_calls (a b : Int) (w : World) : Calls Try.prog 21 #[.int .i64 a, .int .i64 b] w fun e w' => e = .returned (.int .i64 (mul a b)) ∧ w' = w := by
  obtain ⟨p1, p2⟩ := absI_cut a
  obtain ⟨q1, q2⟩ := absI_cut b
  have F := mul_signs a b
  obtain ⟨⟨m1, m2⟩, ⟨m3, m4⟩, m5, m6⟩ := piece_bounds p1 p2 q1 q2
  obtain ⟨s1, s2⟩ := sgn_bounds (cut a) (cut b)
  have small := pieces_small (x := absI (cut a)) (y := absI (cut b))
  have great := pieces_great (x := absI (cut a)) (y := absI (cut b)) p1
  obtain ⟨r1, r2⟩ := sgn_mul_bounds (cut a) (cut b) (cut (absI (cut a) * absI (cut b) / 65536)) (cut_ge _) (cut_le _)
  by_cases z : 2147483648 ≤ absI (cut a) * (absI (cut b) / 65536 / 65536)
  · have y2 : 0 < absI (cut b) / 65536 / 65536 := by
      by_cases h : 0 < absI (cut b) / 65536 / 65536
      · exact h
      · have e : absI (cut b) / 65536 / 65536 = 0 := by omega
        rw [e] at z; omega
    rw [(great z).trans cut_T.symm] at F r1 r2
    have HF : Hid _ := F
    clear small great F
    go_enter Try.func21, Try.ntmps21
    go_wp2_with fail
    refine (abs_calls _ _).mono ?_; rintro e w1 ⟨rfl, rfl⟩
    go_wp2_with fail
    refine (abs_calls _ _).mono ?_; rintro e w1 ⟨rfl, rfl⟩
    go_wp2_with fail
    refine (refCut_calls _ _).mono ?_; rintro e w1 ⟨rfl, rfl⟩
    go_wp2_with fail
    go_ret
    exact ⟨ret_int HF.out, rfl⟩
  · rw [← small] at F r1 r2
    have HF : Hid _ := F
    have z2 : absI (cut a) * (absI (cut b) / 65536 / 65536) < 2147483648 := by omega
    clear small great F
    have hd : decide (2147483648 ≤ absI (cut a) * (absI (cut b) / 65536 / 65536)) = false := by simpa using z2
    by_cases y2 : 0 < absI (cut b) / 65536 / 65536
    all_goals
      go_enter Try.func21, Try.ntmps21
      go_wp2_with fail
      refine (abs_calls _ _).mono ?_; rintro e w1 ⟨rfl, rfl⟩
      go_wp2_with fail
      refine (abs_calls _ _).mono ?_; rintro e w1 ⟨rfl, rfl⟩
      go_wp2_with fail
      refine (refCut_calls _ _).mono ?_; rintro e w1 ⟨rfl, rfl⟩
      go_wp2_with fail
      go_ret
      exact ⟨ret_int HF.out, rfl⟩

set_option maxHeartbeats 1000000 in
theorem div_calls (a b : Int) (w : World) : Calls Try.prog 22 #[.int .i64 a, .int .i64 b] w fun e w' => e = .returned (.int .i64 (div a b)) ∧ Kept w w' := by
  have a1 := cut_le a; have a2 := cut_ge a; have b1 := cut_le b; have b2 := cut_ge b
  by_cases z : cut b = 0
  · have F := div_zero (a := a) z
    have HF : Hid _ := F
    have z' : (cut b == 0) = true := by simpa using z
    clear z F
    go_enter Try.func22, Try.ntmps22
    go_wp2_with fail
    refine (cut_calls _ _).mono ?_; rintro e w1 ⟨rfl, k1⟩
    go_wp2_with fail
    refine (cut_calls _ _).mono ?_; rintro e w2 ⟨rfl, k2⟩
    go_wp2_with fail
    refine (endless_calls _ _).mono ?_; rintro e w3 ⟨rfl, rfl⟩
    go_wp2_with fail
    go_ret
    exact ⟨ret_int HF.out.symm, kept_two k1 k2⟩
  · have F := div_else (a := a) z
    have HF : Hid _ := F
    have z' : (cut b == 0) = false := by simpa using z
    obtain ⟨t1, t2⟩ := tdiv_bounds a2 a1 z
    clear F
    go_enter Try.func22, Try.ntmps22
    go_wp2_with fail
    refine (cut_calls _ _).mono ?_; rintro e w1 ⟨rfl, k1⟩
    go_wp2_with fail
    refine (cut_calls _ _).mono ?_; rintro e w2 ⟨rfl, k2⟩
    go_wp2_with fail
    refine (cut_calls _ _).mono ?_; rintro e w3 ⟨rfl, k3⟩
    go_wp2_with fail
    go_ret
    exact ⟨ret_int HF.out.symm, kept_three k1 k2 k3⟩

theorem sgn_one (a : Int) : -1 ≤ sgn a ∧ sgn a ≤ 1 := by unfold sgn; split <;> omega

set_option maxHeartbeats 1000000 in
theorem refDiv_calls (a b : Int) (w : World) : Calls Try.prog 23 #[.int .i64 a, .int .i64 b] w fun e w' => e = .returned (.int .i64 (div a b)) ∧ w' = w := by
  obtain ⟨p1, p2⟩ := absI_cut a
  obtain ⟨q1, q2⟩ := absI_cut b
  obtain ⟨s1, s2⟩ := sgn_bounds (cut a) (cut b)
  obtain ⟨o1, o2⟩ := sgn_one (cut a)
  by_cases z : absI (cut b) = 0
  · have F := div_zero (a := a) (absI_zero.1 z)
    have z' : (absI (cut b) == 0) = true := by simpa using z
    by_cases y : absI (cut a) = 0
    · rw [endless_zero y] at F
      have y' : (absI (cut a) == 0) = true := by simpa using y
      have HF : Hid _ := F
      clear F y z
      go_enter Try.func23, Try.ntmps23
      go_wp2_with fail
      refine (abs_calls _ _).mono ?_; rintro e w1 ⟨rfl, rfl⟩
      go_wp2_with fail
      refine (abs_calls _ _).mono ?_; rintro e w1 ⟨rfl, rfl⟩
      go_wp2_with fail
      go_ret
      exact ⟨ret_int HF.out.symm, rfl⟩
    · rw [← endless_sgn y] at F
      have y' : (absI (cut a) == 0) = false := by simpa using y
      have HF : Hid _ := F
      clear F y z
      go_enter Try.func23, Try.ntmps23
      go_wp2_with fail
      refine (abs_calls _ _).mono ?_; rintro e w1 ⟨rfl, rfl⟩
      go_wp2_with fail
      refine (abs_calls _ _).mono ?_; rintro e w1 ⟨rfl, rfl⟩
      go_wp2_with fail
      go_ret
      exact ⟨ret_int HF.out.symm, rfl⟩
  · have F := div_signs (a := a) (b := b) (fun e => z (absI_zero.2 e))
    have z' : (absI (cut b) == 0) = false := by simpa using z
    have z1 : 1 ≤ absI (cut b) := by omega
    obtain ⟨t1, t2⟩ := quo_bounds (x := absI (cut a) * 65536) (by omega) (by omega) z1
    obtain ⟨r1, r2⟩ := sgn_mul_bounds (cut a) (cut b) (cut (absI (cut a) * 65536 / absI (cut b))) (cut_ge _) (cut_le _)
    have HF : Hid _ := F
    clear F z
    go_enter Try.func23, Try.ntmps23
    go_wp2_with fail
    refine (abs_calls _ _).mono ?_; rintro e w1 ⟨rfl, rfl⟩
    go_wp2_with fail
    refine (abs_calls _ _).mono ?_; rintro e w1 ⟨rfl, rfl⟩
    go_wp2_with fail
    refine (refCut_calls _ _).mono ?_; rintro e w1 ⟨rfl, rfl⟩
    go_wp2_with fail
    go_ret
    exact ⟨ret_int HF.out, rfl⟩
end Go.Proofs.Ytbfkloclmlnahaa
