/- bits.Mul64 at numbers of at most 2^46, fx.Mul and gyreref.Mul answer 'mul', whatever the numbers. -/
import Derived.Test.YtpegjobehdihbaaSmall
import Derived.Shelf.Bits.Mul64
namespace Go.Proofs.Ytpegjobehdihbaa
open Go.ChangeShapes Go.WideShapes Go.ChangeAt Go.RowKit Go.Shelf

/-- The library's own contract for bits.Mul64, laid at this program. -/
def mulRen : Go.Shelf.Ren := { f := fun n => if n = 264 then 37 else n, t := fun n => if n = 53 then 65 else if n = 46 then 61 else n, g := fun n => n }
theorem mulLays : Lays.n264 Try.prog mulRen := {
  mixed := by kernel_rfl
  f264 := by kernel_rfl
  t46 := by kernel_rfl
  a46 := fun _ => by kernel_rfl
  z46 := fun _ => by kernel_rfl
  v46 := fun _ => by kernel_rfl
  t53 := by kernel_rfl
  a53 := fun _ => by kernel_rfl
  z53 := fun _ => by kernel_rfl
  v53 := fun _ => by kernel_rfl }
theorem mul64_nat (x y : Nat) (hx : x < 18446744073709551616) (hy : y < 18446744073709551616) (w : World) :
    Calls Try.prog 37 #[.int .u64 x, .int .u64 y] w fun e w' => e = .returned (.tuple #[.int .u64 ((x * y / 18446744073709551616 : Nat) : Int), .int .u64 ((x * y % 18446744073709551616 : Nat) : Int)]) ∧ w' = w :=
  Any.bits_Mul64 mulLays x y hx hy w

theorem mul64_calls (x y : Int) (w : World) (h : 0 ≤ x) (h' : x ≤ 70368744177664) (k : 0 ≤ y) (k' : y ≤ 70368744177664) :
    Calls Try.prog 37 #[.int .u64 x, .int .u64 y] w fun e w' => e = .returned (.tuple #[.int .u64 (hiI x y), .int .u64 (loI x y)]) ∧ w' = w := by
  obtain ⟨a, rfl⟩ := Int.eq_ofNat_of_zero_le h
  obtain ⟨b, rfl⟩ := Int.eq_ofNat_of_zero_le k
  refine (mul64_nat a b (by omega) (by omega) w).mono ?_
  rintro e w' ⟨rfl, rfl⟩
  refine ⟨?_, rfl⟩
  have e1 : ((a * b / 18446744073709551616 : Nat) : Int) = hiI a b := by unfold hiI; rw [← Int.natCast_mul]; rfl
  have e2 : ((a * b % 18446744073709551616 : Nat) : Int) = loI a b := by unfold loI; rw [← Int.natCast_mul]; rfl
  rw [e1, e2]

set_option maxHeartbeats 1000000 in
theorem mul_calls (a b : Int) (w : World) : Calls Try.prog 25 #[.int .i64 a, .int .i64 b] w fun e w' => e = .returned (.int .i64 (mul a b)) ∧ Kept w w' := by
  have a1 := cut_le a; have a2 := cut_ge a; have b1 := cut_le b; have b2 := cut_ge b
  obtain ⟨p1, p2⟩ := absI_cut a
  obtain ⟨q1, q2⟩ := absI_cut b
  have hlo := mul_lo (a := a) (b := b)
  have hhi := mul_hi (a := a) (b := b)
  have same := mul_same (a := a) (b := b)
  have other := mul_other (a := a) (b := b)
  obtain ⟨l1, l2⟩ := lo_bounds (absI (cut a)) (absI (cut b))
  obtain ⟨g1, g2⟩ := hi_bounds p1 p2 q1 q2
  have l3 : loI (absI (cut a)) (absI (cut b)) / 65536 ≤ 281474976710655 := by omega
  by_cases ca : cut a < 0 <;> by_cases cb : cut b < 0 <;> by_cases z : hiI (absI (cut a)) (absI (cut b)) = 0
  all_goals
    first
    | (have F := same (iff_of_true ca cb); clear same other)
    | (have F := same (iff_of_false ca cb); clear same other)
    | (have F := other (iff_of_true ca cb); clear same other)
    | (have F := other (iff_of_false ca (fun h => h cb)); clear same other)
    first
    | (rw [← hlo z] at F; have z' : (hiI (absI (cut a)) (absI (cut b)) == 0) = true := by simpa using z)
    | (rw [hhi z] at F; have z' : (hiI (absI (cut a)) (absI (cut b)) == 0) = false := by simpa using z)
    clear hlo hhi z
    have HF : Hid _ := F
    clear F
    first
    | (have da : decide (cut a < 0) = true := by simpa using ca)
    | (have da : decide (cut a < 0) = false := by simpa using ca)
    first
    | (have db : decide (cut b < 0) = true := by simpa using cb)
    | (have db : decide (cut b < 0) = false := by simpa using cb)
    go_enter Try.func25, Try.ntmps25
    go_wp2_with fail
    refine (cut_calls _ _).mono ?_; rintro e w1 ⟨rfl, k1⟩
    go_wp2_with fail
    refine (cut_calls _ _).mono ?_; rintro e w2 ⟨rfl, k2⟩
    go_wp2_with fail
    refine (size_calls _ _ (by omega) (by omega)).mono ?_; rintro e w3 ⟨rfl, rfl⟩
    go_wp2_with fail
    refine (size_calls _ _ (by omega) (by omega)).mono ?_; rintro e w4 ⟨rfl, rfl⟩
    go_wp2_with fail
    refine (mul64_calls _ _ _ (by omega) (by omega) (by omega) (by omega)).mono ?_; rintro e w5 ⟨rfl, rfl⟩
    go_wp2_with fail
    refine (cut_calls _ _).mono ?_; rintro e w6 ⟨rfl, k6⟩
    go_wp2_with fail
    go_ret
    refine ⟨ret_int ?_, kept_three k1 k2 k6⟩
    first | exact HF.out.symm | exact (cut_neg _).trans HF.out.symm | exact cut_T.trans HF.out.symm | exact cut_nT.trans HF.out.symm
end Go.Proofs.Ytpegjobehdihbaa
