/- The numbers of chapter 1 as plain functions on integers, and what holds of them: no Go text, no condition but those typed. -/
namespace Go.Proofs.YtdhbcgdlmkkdfaaGreatDoor

def cut (n : Int) : Int := if 70368744177664 < n then 70368744177664 else if n < -70368744177664 then -70368744177664 else n
theorem cut_hi {n : Int} (h : 70368744177664 < n) : cut n = 70368744177664 := by unfold cut; rw [if_pos h]
theorem cut_lo {n : Int} (h : n < -70368744177664) : cut n = -70368744177664 := by unfold cut; rw [if_neg (by omega), if_pos h]
theorem cut_in {n : Int} (h : -70368744177664 ≤ n) (k : n ≤ 70368744177664) : cut n = n := by unfold cut; rw [if_neg (by omega), if_neg (by omega)]
theorem cut_le (n : Int) : cut n ≤ 70368744177664 := by
  unfold cut; split
  · omega
  · split <;> omega
theorem cut_ge (n : Int) : -70368744177664 ≤ cut n := by
  unfold cut; split
  · omega
  · split <;> omega
theorem cut_neg (n : Int) : cut (-n) = -cut n := by
  unfold cut; repeat' split
  all_goals omega
theorem cut_cut (n : Int) : cut (cut n) = cut n := cut_in (cut_ge n) (cut_le n)
theorem cut_top {n : Int} (h : 70368744177664 ≤ n) : cut n = 70368744177664 := by
  unfold cut; repeat' split
  all_goals omega

theorem cut_T : cut 70368744177664 = 70368744177664 := cut_in (by omega) (by omega)
theorem cut_nT : cut (-70368744177664) = -70368744177664 := cut_in (by omega) (by omega)

/-- Sum and difference. -/
def add (a b : Int) : Int := cut (cut a + cut b)
def sub (a b : Int) : Int := cut (cut a - cut b)
theorem sub_swap (a b : Int) : sub a b = -sub b a := by
  unfold sub; rw [← cut_neg]; congr 1; omega

/-- Size, sign. -/
def absI (n : Int) : Int := if n < 0 then -n else n
def sgn (n : Int) : Int := if n < 0 then -1 else 1
theorem absI_neg {n : Int} (h : n < 0) : absI n = -n := by unfold absI; rw [if_pos h]
theorem absI_pos {n : Int} (h : ¬ n < 0) : absI n = n := by unfold absI; rw [if_neg h]
theorem sgn_neg {n : Int} (h : n < 0) : sgn n = -1 := by unfold sgn; rw [if_pos h]
theorem sgn_pos {n : Int} (h : ¬ n < 0) : sgn n = 1 := by unfold sgn; rw [if_neg h]
theorem absI_bounds {n : Int} (h : -70368744177664 ≤ n) (k : n ≤ 70368744177664) : 0 ≤ absI n ∧ absI n ≤ 70368744177664 := by
  unfold absI; split <;> omega
theorem absI_cut (n : Int) : 0 ≤ absI (cut n) ∧ absI (cut n) ≤ 70368744177664 := absI_bounds (cut_ge n) (cut_le n)

/-- Product. -/
def mul (a b : Int) : Int := cut ((cut a * cut b).tdiv 65536)
def hiI (x y : Int) : Int := x * y / 18446744073709551616
def loI (x y : Int) : Int := x * y % 18446744073709551616
theorem mul_swap (a b : Int) : mul a b = mul b a := by unfold mul; rw [Int.mul_comm]
theorem mul_neg (a b : Int) : mul (-cut a) b = -mul a b := by
  unfold mul; rw [cut_neg, cut_cut, Int.neg_mul, Int.neg_tdiv, cut_neg]

theorem nonneg_mul {x y : Int} (hx : 0 ≤ x) (hy : 0 ≤ y) : 0 ≤ x * y := Int.mul_nonneg hx hy
/-- A product's quotient, by sizes and signs. -/
theorem tdiv_same {a b : Int} (h : (a < 0) ↔ (b < 0)) : (a * b).tdiv 65536 = absI a * absI b / 65536 := by
  have e : a * b = absI a * absI b := by
    by_cases ha : a < 0
    · rw [absI_neg ha, absI_neg (h.1 ha), Int.neg_mul_neg]
    · rw [absI_pos ha, absI_pos (fun hb => ha (h.2 hb))]
  have p : 0 ≤ absI a * absI b := nonneg_mul (by unfold absI; split <;> omega) (by unfold absI; split <;> omega)
  rw [e, Int.tdiv_eq_ediv_of_nonneg p]
theorem tdiv_other {a b : Int} (h : (a < 0) ↔ ¬ (b < 0)) : (a * b).tdiv 65536 = -(absI a * absI b / 65536) := by
  have e : a * b = -(absI a * absI b) := by
    by_cases ha : a < 0
    · rw [absI_neg ha, absI_pos (h.1 ha), Int.neg_mul, Int.neg_neg]
    · have hb : b < 0 := by
        by_cases hb : b < 0
        · exact hb
        · exact absurd (h.2 hb) ha
      rw [absI_pos ha, absI_neg hb, Int.mul_neg, Int.neg_neg]
  have p : 0 ≤ absI a * absI b := nonneg_mul (by unfold absI; split <;> omega) (by unfold absI; split <;> omega)
  rw [e, Int.neg_tdiv, Int.tdiv_eq_ediv_of_nonneg p]

theorem lo_of_hi {x y : Int} (h : hiI x y = 0) : loI x y = x * y := by unfold hiI at h; unfold loI; omega
theorem lo_bounds (x y : Int) : 0 ≤ loI x y ∧ loI x y ≤ 18446744073709551615 := by unfold loI; omega
theorem hi_bounds {x y : Int} (hx : 0 ≤ x) (hx' : x ≤ 70368744177664) (hy : 0 ≤ y) (hy' : y ≤ 70368744177664) : 0 ≤ hiI x y ∧ hiI x y ≤ 70368744177664 := by
  have p : 0 ≤ x * y := nonneg_mul hx hy
  have q : x * y ≤ 70368744177664 * 70368744177664 := Int.mul_le_mul hx' hy' hy (by omega)
  unfold hiI; omega
theorem big_of_hi {x y : Int} (hx : 0 ≤ x) (hy : 0 ≤ y) (h : hiI x y ≠ 0) : 70368744177664 ≤ x * y / 65536 := by
  have p : 0 ≤ x * y := nonneg_mul hx hy
  unfold hiI at h; omega

theorem mul_same {a b : Int} (h : (cut a < 0) ↔ (cut b < 0)) : mul a b = cut (absI (cut a) * absI (cut b) / 65536) := by unfold mul; rw [tdiv_same h]
theorem mul_other {a b : Int} (h : (cut a < 0) ↔ ¬ (cut b < 0)) : mul a b = -cut (absI (cut a) * absI (cut b) / 65536) := by unfold mul; rw [tdiv_other h, cut_neg]
theorem mul_lo {a b : Int} (h : hiI (absI (cut a)) (absI (cut b)) = 0) : cut (loI (absI (cut a)) (absI (cut b)) / 65536) = cut (absI (cut a) * absI (cut b) / 65536) := by rw [lo_of_hi h]
theorem mul_hi {a b : Int} (h : hiI (absI (cut a)) (absI (cut b)) ≠ 0) : cut (absI (cut a) * absI (cut b) / 65536) = 70368744177664 :=
  cut_top (big_of_hi (absI_cut a).1 (absI_cut b).1 h)
theorem mul_signs (a b : Int) : sgn (cut a) * sgn (cut b) * cut (absI (cut a) * absI (cut b) / 65536) = mul a b := by
  by_cases ha : cut a < 0 <;> by_cases hb : cut b < 0
  · rw [sgn_neg ha, sgn_neg hb, mul_same (iff_of_true ha hb)]; omega
  · rw [sgn_neg ha, sgn_pos hb, mul_other (iff_of_true ha hb)]; omega
  · rw [sgn_pos ha, sgn_neg hb, mul_other (iff_of_false ha (fun h => h hb))]; omega
  · rw [sgn_pos ha, sgn_pos hb, mul_same (iff_of_false ha hb)]; omega
/-- The product by pieces of 16 bits. -/
theorem pieces (x y : Int) : x * y / 65536 = x * (y % 65536) / 65536 + x * (y / 65536 % 65536) + x * (y / 65536 / 65536) * 65536 := by
  have e : y = y % 65536 + (y / 65536 % 65536) * 65536 + (y / 65536 / 65536) * 4294967296 := by omega
  have f : x * y = x * (y % 65536) + x * (y / 65536 % 65536) * 65536 + x * (y / 65536 / 65536) * 4294967296 := by
    conv => lhs; rw [e, Int.mul_add, Int.mul_add, ← Int.mul_assoc, ← Int.mul_assoc]
  rw [f]
  generalize x * (y % 65536) = p
  generalize x * (y / 65536 % 65536) = q
  generalize x * (y / 65536 / 65536) = r
  omega
theorem piece_bounds {x y : Int} (hx : 0 ≤ x) (hx' : x ≤ 70368744177664) (hy : 0 ≤ y) (hy' : y ≤ 70368744177664) :
    (0 ≤ x * (y % 65536) ∧ x * (y % 65536) ≤ 4611615649683210240) ∧ (0 ≤ x * (y / 65536 % 65536) ∧ x * (y / 65536 % 65536) ≤ 4611615649683210240) ∧ (0 ≤ x * (y / 65536 / 65536) ∧ x * (y / 65536 / 65536) ≤ 1152921504606846976) :=
  ⟨⟨nonneg_mul hx (by omega), Int.mul_le_mul (c := 70368744177664) (d := 65535) hx' (by omega) (by omega) (by omega)⟩,
   ⟨nonneg_mul hx (by omega), Int.mul_le_mul (c := 70368744177664) (d := 65535) hx' (by omega) (by omega) (by omega)⟩,
   ⟨nonneg_mul hx (by omega), Int.mul_le_mul (c := 70368744177664) (d := 16384) hx' (by omega) (by omega) (by omega)⟩⟩
theorem pieces_small {x y : Int} : cut (x * (y % 65536) / 65536 + x * (y / 65536 % 65536) + x * (y / 65536 / 65536) * 65536) = cut (x * y / 65536) := by rw [pieces x y]
theorem pieces_great {x y : Int} (hx : 0 ≤ x) (h : 2147483648 ≤ x * (y / 65536 / 65536)) : cut (x * y / 65536) = 70368744177664 := by
  have p1 : 0 ≤ x * (y % 65536) := nonneg_mul hx (by omega)
  have p2 : 0 ≤ x * (y / 65536 % 65536) := nonneg_mul hx (by omega)
  refine cut_top ?_
  rw [pieces x y]
  generalize x * (y % 65536) = p at *
  generalize x * (y / 65536 % 65536) = q at *
  generalize x * (y / 65536 / 65536) = r at *
  omega

/-- Quotient. -/
def endless (a : Int) : Int := if 0 < a then 70368744177664 else if a < 0 then -70368744177664 else 0
def div (a b : Int) : Int := if cut b = 0 then endless (cut a) else cut ((65536 * cut a).tdiv (cut b))
theorem div_zero {a b : Int} (h : cut b = 0) : div a b = endless (cut a) := by unfold div; rw [if_pos h]
theorem div_else {a b : Int} (h : cut b ≠ 0) : div a b = cut ((65536 * cut a).tdiv (cut b)) := by unfold div; rw [if_neg h]
theorem quo_bounds {x y : Int} (hx : 0 ≤ x) (hx' : x ≤ 4611686018427387904) (hy : 1 ≤ y) : 0 ≤ x / y ∧ x / y ≤ 4611686018427387904 :=
  ⟨Int.ediv_nonneg hx (by omega), Int.le_trans (Int.ediv_le_self y hx) hx'⟩
theorem tdiv_sizes (a b : Int) : (65536 * a).tdiv b = sgn a * sgn b * (absI a * 65536 / absI b) := by
  by_cases ha : a < 0 <;> by_cases hb : b < 0
  · rw [sgn_neg ha, sgn_neg hb, absI_neg ha, absI_neg hb, show 65536 * a = -(-a * 65536) by omega, show b = -(-b) by omega, Int.neg_tdiv_neg, Int.tdiv_eq_ediv_of_nonneg (by omega), Int.neg_neg]; omega
  · rw [sgn_neg ha, sgn_pos hb, absI_neg ha, absI_pos hb, show 65536 * a = -(-a * 65536) by omega, Int.neg_tdiv, Int.tdiv_eq_ediv_of_nonneg (by omega)]; omega
  · rw [sgn_pos ha, sgn_neg hb, absI_pos ha, absI_neg hb, show 65536 * a = a * 65536 by omega, show b = -(-b) by omega, Int.tdiv_neg, Int.tdiv_eq_ediv_of_nonneg (by omega), Int.neg_neg]; omega
  · rw [sgn_pos ha, sgn_pos hb, absI_pos ha, absI_pos hb, show 65536 * a = a * 65536 by omega, Int.tdiv_eq_ediv_of_nonneg (by omega)]; omega
theorem sgn_cut (a b n : Int) : sgn a * sgn b * cut n = cut (sgn a * sgn b * n) := by
  by_cases ha : a < 0 <;> by_cases hb : b < 0
  · rw [sgn_neg ha, sgn_neg hb, show (-1 : Int) * -1 * cut n = cut n by omega, show (-1 : Int) * -1 * n = n by omega]
  · rw [sgn_neg ha, sgn_pos hb, show (-1 : Int) * 1 * cut n = -cut n by omega, show (-1 : Int) * 1 * n = -n by omega, cut_neg]
  · rw [sgn_pos ha, sgn_neg hb, show (1 : Int) * -1 * cut n = -cut n by omega, show (1 : Int) * -1 * n = -n by omega, cut_neg]
  · rw [sgn_pos ha, sgn_pos hb, show (1 : Int) * 1 * cut n = cut n by omega, show (1 : Int) * 1 * n = n by omega]
theorem div_signs {a b : Int} (h : cut b ≠ 0) : sgn (cut a) * sgn (cut b) * cut (absI (cut a) * 65536 / absI (cut b)) = div a b := by
  rw [div_else h, sgn_cut, tdiv_sizes]
theorem sgn_cases (a b : Int) : sgn a * sgn b = 1 ∨ sgn a * sgn b = -1 := by
  by_cases ha : a < 0 <;> by_cases hb : b < 0
  · rw [sgn_neg ha, sgn_neg hb]; omega
  · rw [sgn_neg ha, sgn_pos hb]; omega
  · rw [sgn_pos ha, sgn_neg hb]; omega
  · rw [sgn_pos ha, sgn_pos hb]; omega
theorem tdiv_bounds {a b : Int} (h : -70368744177664 ≤ a) (k : a ≤ 70368744177664) (hb : b ≠ 0) : -4611686018427387904 ≤ (65536 * a).tdiv b ∧ (65536 * a).tdiv b ≤ 4611686018427387904 := by
  rw [tdiv_sizes]
  have p := absI_bounds h k
  have q : 1 ≤ absI b := by unfold absI; split <;> omega
  have r := quo_bounds (x := absI a * 65536) (by omega) (by omega) q
  rcases sgn_cases a b with e | e
  · rw [e]; omega
  · rw [e]; omega

theorem absI_zero {n : Int} : absI n = 0 ↔ n = 0 := by unfold absI; split <;> omega
theorem endless_zero {n : Int} (h : absI n = 0) : endless n = 0 := by rw [absI_zero.1 h]; rfl
theorem endless_sgn {n : Int} (h : absI n ≠ 0) : sgn n * 70368744177664 = endless n := by
  have k : n ≠ 0 := fun e => h (absI_zero.2 e)
  unfold sgn endless; repeat' split
  all_goals omega

/-- Root. -/
def isq : Nat → Nat
  | 0 => 0
  | n + 1 => if (isq n + 1) * (isq n + 1) ≤ n + 1 then isq n + 1 else isq n
theorem isq_spec (n : Nat) : isq n * isq n ≤ n ∧ n < (isq n + 1) * (isq n + 1) := by
  induction n with
  | zero => exact ⟨Nat.le_refl _, by decide⟩
  | succ n ih =>
    unfold isq
    split
    · rename_i h
      refine ⟨h, ?_⟩
      have e : (isq n + 1 + 1) * (isq n + 1 + 1) = (isq n + 1) * (isq n + 1) + 2 * isq n + 3 := by
        generalize isq n = r
        rw [Nat.add_mul, Nat.mul_add]; omega
      omega
    · omega
def root (n : Int) : Int := if cut n < 0 then 0 else (isq (65536 * cut n).toNat : Nat)
theorem sq_mono {a b : Int} (h : 0 ≤ a) (k : a ≤ b) : a * a ≤ b * b := Int.mul_le_mul k k h (by omega)
theorem root_unique {s r q : Int} (r0 : 0 ≤ r) (r1 : r * r ≤ s) (r2 : s < (r + 1) * (r + 1)) (q0 : 0 ≤ q) (q1 : q * q ≤ s) (q2 : s < (q + 1) * (q + 1)) : r = q := by
  by_cases h : r < q
  · have := sq_mono (a := r + 1) (b := q) (by omega) (by omega); omega
  · by_cases k : q < r
    · have := sq_mono (a := q + 1) (b := r) (by omega) (by omega); omega
    · omega
theorem root_is {n : Int} (h : 0 ≤ cut n) : 0 ≤ root n ∧ root n * root n ≤ 65536 * cut n ∧ 65536 * cut n < (root n + 1) * (root n + 1) := by
  unfold root
  rw [if_neg (by omega)]
  obtain ⟨a, b⟩ := isq_spec (65536 * cut n).toNat
  have e : ((65536 * cut n).toNat : Int) = 65536 * cut n := Int.toNat_of_nonneg (by omega)
  refine ⟨Int.natCast_nonneg _, ?_, ?_⟩
  · rw [← Int.natCast_mul]; omega
  · rw [show ((isq (65536 * cut n).toNat : Nat) : Int) + 1 = ((isq (65536 * cut n).toNat + 1 : Nat) : Int) from by omega, ← Int.natCast_mul]; omega
theorem root_neg {n : Int} (h : cut n < 0) : root n = 0 := by unfold root; rw [if_pos h]
theorem root_eq {n r : Int} (h : 0 ≤ cut n) (r0 : 0 ≤ r) (r1 : r * r ≤ 65536 * cut n) (r2 : 65536 * cut n < (r + 1) * (r + 1)) : root n = r := by
  obtain ⟨a, b, c⟩ := root_is h
  exact root_unique a b c r0 r1 r2
theorem root_zero {n : Int} (h : cut n = 0) : root n = 0 := root_eq (by omega) (by omega) (by omega) (by omega)
theorem root_bounds (n : Int) : 0 ≤ root n ∧ root n ≤ 2147483648 := by
  by_cases h : cut n < 0
  · rw [root_neg h]; omega
  · obtain ⟨a, b, c⟩ := root_is (n := n) (by omega)
    refine ⟨a, ?_⟩
    by_cases k : root n ≤ 2147483648
    · exact k
    · have := sq_mono (a := 2147483649) (b := root n) (by omega) (by omega)
      have := cut_le n
      omega
theorem root_facts {n : Int} (h : 0 ≤ n) (k : n ≤ 70368744177664) : 0 ≤ root n ∧ root n ≤ 2147483648 ∧ 0 ≤ root n * root n ∧ root n * root n ≤ n * 65536 ∧ n * 65536 < (root n + 1) * (root n + 1) ∧ (root n + 1) * (root n + 1) ≤ 4611686022722355201 := by
  have e : cut n = n := cut_in (by omega) k
  obtain ⟨a, b⟩ := root_bounds n
  obtain ⟨_, c, d⟩ := root_is (n := n) (by omega)
  rw [e] at c d
  exact ⟨a, b, nonneg_mul a a, by omega, by omega, sq_mono (a := root n + 1) (b := 2147483649) (by omega) (by omega)⟩
theorem mul_bounds (a b : Int) : -70368744177664 ≤ mul a b ∧ mul a b ≤ 70368744177664 := ⟨cut_ge _, cut_le _⟩
theorem sub_bounds (a b : Int) : -70368744177664 ≤ sub a b ∧ sub a b ≤ 70368744177664 := ⟨cut_ge _, cut_le _⟩
theorem add_bounds (a b : Int) : -70368744177664 ≤ add a b ∧ add a b ≤ 70368744177664 := ⟨cut_ge _, cut_le _⟩
/-- Halves. -/
theorem mid_sq {l h : Int} (h0 : 0 ≤ l) (h2 : h ≤ 2147483648) (h3 : l < h) : 0 ≤ (l + h + 1) / 2 * ((l + h + 1) / 2) ∧ (l + h + 1) / 2 * ((l + h + 1) / 2) ≤ 4611686018427387904 :=
  ⟨nonneg_mul (by omega) (by omega), sq_mono (a := (l + h + 1) / 2) (b := 2147483648) (by omega) (by omega)⟩
/-- Within bounds. -/
def cl (k n : Int) : Int := if k < n then k else if n < -k then -k else n
theorem cl_hi {k n : Int} (h : k < n) : cl k n = k := by unfold cl; rw [if_pos h]
theorem cl_lo {k n : Int} (h : ¬ k < n) (g : n < -k) : cl k n = -k := by unfold cl; rw [if_neg h, if_pos g]
theorem cl_in {k n : Int} (h : ¬ k < n) (g : ¬ n < -k) : cl k n = n := by unfold cl; rw [if_neg h, if_neg g]
def bound (k : Int) : Int := if k < 0 then 0 else k
/-- Products of vectors. -/
def dot (x y z x' y' z' : Int) : Int := add (add (mul x x') (mul y y')) (mul z z')
def long (x y z : Int) : Int := root (dot x y z x y z)
end Go.Proofs.YtdhbcgdlmkkdfaaGreatDoor
