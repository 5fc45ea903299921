/- What worlds keep (old cells, old marks) while calls lay new blocks: plain laws on 'Kept', no condition. · The numbers of chapter 1 as plain functions on integers, and what holds of them: no Go text, no condition but those typed. · fx.Cut and gyreref.Cut both answer 'cut', whatever the number. · fx.Add, fx.Sub, fx.size, fx.endless, bits.Mul64 and gyreref's Add, Sub, abs answer what Math.lean says. · bits.Mul64 at numbers of at most 2^46, fx.Mul and gyreref.Mul answer 'mul', whatever the numbers. · gyreref.Mul answers 'mul'; fx.Div and gyreref.Div answer 'div', whatever the numbers. · fx.Root and gyreref.Root answer 'root', whatever the number. · What a region that draws its order may lean on: cells that calls keep. Plain laws on worlds, no condition but those typed. · fx.Plus and fx.Minus answer, part by part, what Math.lean says: whatever the vectors. · fx's vectors answer, part by part, what Math.lean says: whatever the vectors. · gyreref.each, and the closures of fx and gyreref, answer what they are handed: whatever the numbers. · fx.Times, Dot, Long and gyreref's Plus, Minus, Times, Dot, Long answer what Math.lean says: whatever the vectors. · fx.Unit, Clamp and gyreref's Unit, Clamp answer the same: whatever the vectors. · fx.Clamp and gyreref.Clamp answer the same: whatever the vector, and the bound. · FxVectors' own walk: whatever the vectors and the number, it returns true. · Nodes of broad's tree as they lie in memory, and what a call may turn: plain laws, no condition but those typed. · world.beyond, world.upTo: whatever the numbers. · Bodies as they lie in memory; gyrelaw.alone, gyrelaw.sameBodies: whatever the bodies. · What touches do to bodies, in plain functions; gyreref.index, the lights: whatever the bodies. · A slice of bodies in memory of its own; solve.fresh: whatever the bodies. · A body in a block of its own. · geom.parts, its three takers, geom.sized and geom.all answer what one expects: whatever they are given. · geom.each answers, part by part, what it is handed: whatever that is. -/
import Derived.Test.YtbfkloclmlnahabGreatRows
import Derived.WalkKit
import Derived.ProofKit
import Derived.OpenShut
import Derived.Shelf.Bits.Mul64
import Derived.Deep.RegionHeld3
import Derived.Shelf.Abstract
import Derived.Deep.QuietTactic
import Derived.BigQuiet
import Derived.Deep.CutRange
import Derived.Deep.CutBlock
import Derived.Deep.LoopGhost
import Derived.Maps.OwnSet
import Derived.Maps.AppendAt
import Derived.Deep.MidRow
import Derived.LoopN
import Derived.Laws.EntriesVeiled
open List renaming getElem_toArray → zqa, getElem_cons_succ → zqb, getElem_cons_zero → zqc, setIfInBounds_toArray → zqd, set_cons_zero → zqe, set_cons_succ → zqf, getElem?_toArray → zqg, getElem?_cons_succ → zqh, getElem?_cons_zero → zqi
namespace Go.Proofs.YtbfkloclmlnahabGreat
open Go.ChangeShapes Go.WideShapes Go.ChangeAt Go.RowKit

/-- Nothing that was there has turned; new blocks may lie behind it. -/
structure Kept (w w' : World) : Prop where
  grown : Grown w w'
  below : Below w.heap.size w w'

theorem grown_trans {a b c : World} (h : Grown a b) (k : Grown b c) : Grown a c :=
  ⟨World.keptBut_trans h.1 k.1, fun x => (k.2.1 x).trans (h.2.1 x), Nat.le_trans h.2.2 k.2.2⟩

theorem Kept.refl (w : World) : Kept w w := ⟨Grown.refl _, Below.refl _ _⟩
theorem Kept.trans {a b c : World} (h : Kept a b) (k : Kept b c) : Kept a c :=
  ⟨grown_trans h.grown k.grown, h.below.trans (k.below.mono h.below.size)⟩
theorem Kept.alloc {a b : World} (h : Kept a b) (c : Array Value) (t : TypeId) : Kept a (b.alloc (.cells c t)) :=
  ⟨h.grown.alloc c t, h.below.alloc h.below.size _⟩
theorem Kept.drew {a b : World} (h : Kept a b) : Kept a b.drew := ⟨h.grown.drew, h.below.drew⟩
theorem Kept.setCell {a b : World} (h : Kept a b) {p : Addr} (hp : a.heap.size ≤ p.block) (v : Value) : Kept a (b.setCell p v) :=
  ⟨h.grown.setCell hp v, h.below.setCell hp v⟩
theorem ret_int {k : IntKind} {a b : Int} (h : a = b) : Ending.returned (.int k a) = .returned (.int k b) := by rw [h]
end Go.Proofs.YtbfkloclmlnahabGreat

namespace Go.Proofs.YtbfkloclmlnahabGreat

def cut (n : Int) : Int := if 70368744177664 < n then 70368744177664 else if n < -70368744177664 then -70368744177664 else n
theorem cut_hi {n : Int} (h : 70368744177664 < n) : cut n = 70368744177664 := by unfold cut; rw [if_pos h]
theorem cut_lo {n : Int} (h : n < -70368744177664) : cut n = -70368744177664 := by unfold cut; rw [if_neg (by omega), if_pos h]
theorem cut_in {n : Int} (h : -70368744177664 ≤ n) (k : n ≤ 70368744177664) : cut n = n := by unfold cut; rw [if_neg (by omega), if_neg (by omega)]
theorem cut_le (n : Int) : cut n ≤ 70368744177664 := by
  unfold cut; split
  · omega
  · split <;> omega
theorem cut_ge (n : Int) : -70368744177664 ≤ cut n := by
  unfold cut; split
  · omega
  · split <;> omega
theorem cut_neg (n : Int) : cut (-n) = -cut n := by
  unfold cut; repeat' split
  all_goals omega
theorem cut_top {n : Int} (h : 70368744177664 ≤ n) : cut n = 70368744177664 := by
  unfold cut; repeat' split
  all_goals omega

theorem cut_T : cut 70368744177664 = 70368744177664 := cut_in (by omega) (by omega)
theorem cut_nT : cut (-70368744177664) = -70368744177664 := cut_in (by omega) (by omega)

/-- Sum and difference. -/
def add (a b : Int) : Int := cut (cut a + cut b)
def sub (a b : Int) : Int := cut (cut a - cut b)
/-- Size, sign. -/
def absI (n : Int) : Int := if n < 0 then -n else n
def sgn (n : Int) : Int := if n < 0 then -1 else 1
theorem absI_neg {n : Int} (h : n < 0) : absI n = -n := by unfold absI; rw [if_pos h]
theorem absI_pos {n : Int} (h : ¬ n < 0) : absI n = n := by unfold absI; rw [if_neg h]
theorem sgn_neg {n : Int} (h : n < 0) : sgn n = -1 := by unfold sgn; rw [if_pos h]
theorem sgn_pos {n : Int} (h : ¬ n < 0) : sgn n = 1 := by unfold sgn; rw [if_neg h]
theorem absI_bounds {n : Int} (h : -70368744177664 ≤ n) (k : n ≤ 70368744177664) : 0 ≤ absI n ∧ absI n ≤ 70368744177664 := by
  unfold absI; split <;> omega
theorem absI_cut (n : Int) : 0 ≤ absI (cut n) ∧ absI (cut n) ≤ 70368744177664 := absI_bounds (cut_ge n) (cut_le n)

/-- Product. -/
def mul (a b : Int) : Int := cut ((cut a * cut b).tdiv 65536)
def hiI (x y : Int) : Int := x * y / 18446744073709551616
def loI (x y : Int) : Int := x * y % 18446744073709551616
theorem nonneg_mul {x y : Int} (hx : 0 ≤ x) (hy : 0 ≤ y) : 0 ≤ x * y := Int.mul_nonneg hx hy
/-- A product's quotient, by sizes and signs. -/
theorem tdiv_same {a b : Int} (h : (a < 0) ↔ (b < 0)) : (a * b).tdiv 65536 = absI a * absI b / 65536 := by
  have e : a * b = absI a * absI b := by
    by_cases ha : a < 0
    · rw [absI_neg ha, absI_neg (h.1 ha), Int.neg_mul_neg]
    · rw [absI_pos ha, absI_pos (fun hb => ha (h.2 hb))]
  have p : 0 ≤ absI a * absI b := nonneg_mul (by unfold absI; split <;> omega) (by unfold absI; split <;> omega)
  rw [e, Int.tdiv_eq_ediv_of_nonneg p]
theorem tdiv_other {a b : Int} (h : (a < 0) ↔ ¬ (b < 0)) : (a * b).tdiv 65536 = -(absI a * absI b / 65536) := by
  have e : a * b = -(absI a * absI b) := by
    by_cases ha : a < 0
    · rw [absI_neg ha, absI_pos (h.1 ha), Int.neg_mul, Int.neg_neg]
    · have hb : b < 0 := by
        by_cases hb : b < 0
        · exact hb
        · exact absurd (h.2 hb) ha
      rw [absI_pos ha, absI_neg hb, Int.mul_neg, Int.neg_neg]
  have p : 0 ≤ absI a * absI b := nonneg_mul (by unfold absI; split <;> omega) (by unfold absI; split <;> omega)
  rw [e, Int.neg_tdiv, Int.tdiv_eq_ediv_of_nonneg p]

theorem lo_of_hi {x y : Int} (h : hiI x y = 0) : loI x y = x * y := by unfold hiI at h; unfold loI; omega
theorem lo_bounds (x y : Int) : 0 ≤ loI x y ∧ loI x y ≤ 18446744073709551615 := by unfold loI; omega
theorem hi_bounds {x y : Int} (hx : 0 ≤ x) (hx' : x ≤ 70368744177664) (hy : 0 ≤ y) (hy' : y ≤ 70368744177664) : 0 ≤ hiI x y ∧ hiI x y ≤ 70368744177664 := by
  have p : 0 ≤ x * y := nonneg_mul hx hy
  have q : x * y ≤ 70368744177664 * 70368744177664 := Int.mul_le_mul hx' hy' hy (by omega)
  unfold hiI; omega
theorem big_of_hi {x y : Int} (hx : 0 ≤ x) (hy : 0 ≤ y) (h : hiI x y ≠ 0) : 70368744177664 ≤ x * y / 65536 := by
  have p : 0 ≤ x * y := nonneg_mul hx hy
  unfold hiI at h; omega

theorem mul_same {a b : Int} (h : (cut a < 0) ↔ (cut b < 0)) : mul a b = cut (absI (cut a) * absI (cut b) / 65536) := by unfold mul; rw [tdiv_same h]
theorem mul_other {a b : Int} (h : (cut a < 0) ↔ ¬ (cut b < 0)) : mul a b = -cut (absI (cut a) * absI (cut b) / 65536) := by unfold mul; rw [tdiv_other h, cut_neg]
theorem mul_lo {a b : Int} (h : hiI (absI (cut a)) (absI (cut b)) = 0) : cut (loI (absI (cut a)) (absI (cut b)) / 65536) = cut (absI (cut a) * absI (cut b) / 65536) := by rw [lo_of_hi h]
theorem mul_hi {a b : Int} (h : hiI (absI (cut a)) (absI (cut b)) ≠ 0) : cut (absI (cut a) * absI (cut b) / 65536) = 70368744177664 :=
  cut_top (big_of_hi (absI_cut a).1 (absI_cut b).1 h)
/-- Quotient. -/
def endless (a : Int) : Int := if 0 < a then 70368744177664 else if a < 0 then -70368744177664 else 0
def div (a b : Int) : Int := if cut b = 0 then endless (cut a) else cut ((65536 * cut a).tdiv (cut b))
theorem div_zero {a b : Int} (h : cut b = 0) : div a b = endless (cut a) := by unfold div; rw [if_pos h]
theorem div_else {a b : Int} (h : cut b ≠ 0) : div a b = cut ((65536 * cut a).tdiv (cut b)) := by unfold div; rw [if_neg h]
theorem quo_bounds {x y : Int} (hx : 0 ≤ x) (hx' : x ≤ 4611686018427387904) (hy : 1 ≤ y) : 0 ≤ x / y ∧ x / y ≤ 4611686018427387904 :=
  ⟨Int.ediv_nonneg hx (by omega), Int.le_trans (Int.ediv_le_self y hx) hx'⟩
theorem tdiv_sizes (a b : Int) : (65536 * a).tdiv b = sgn a * sgn b * (absI a * 65536 / absI b) := by
  by_cases ha : a < 0 <;> by_cases hb : b < 0
  · rw [sgn_neg ha, sgn_neg hb, absI_neg ha, absI_neg hb, show 65536 * a = -(-a * 65536) by omega, show b = -(-b) by omega, Int.neg_tdiv_neg, Int.tdiv_eq_ediv_of_nonneg (by omega), Int.neg_neg]; omega
  · rw [sgn_neg ha, sgn_pos hb, absI_neg ha, absI_pos hb, show 65536 * a = -(-a * 65536) by omega, Int.neg_tdiv, Int.tdiv_eq_ediv_of_nonneg (by omega)]; omega
  · rw [sgn_pos ha, sgn_neg hb, absI_pos ha, absI_neg hb, show 65536 * a = a * 65536 by omega, show b = -(-b) by omega, Int.tdiv_neg, Int.tdiv_eq_ediv_of_nonneg (by omega), Int.neg_neg]; omega
  · rw [sgn_pos ha, sgn_pos hb, absI_pos ha, absI_pos hb, show 65536 * a = a * 65536 by omega, Int.tdiv_eq_ediv_of_nonneg (by omega)]; omega
theorem sgn_cases (a b : Int) : sgn a * sgn b = 1 ∨ sgn a * sgn b = -1 := by
  by_cases ha : a < 0 <;> by_cases hb : b < 0
  · rw [sgn_neg ha, sgn_neg hb]; omega
  · rw [sgn_neg ha, sgn_pos hb]; omega
  · rw [sgn_pos ha, sgn_neg hb]; omega
  · rw [sgn_pos ha, sgn_pos hb]; omega
theorem tdiv_bounds {a b : Int} (h : -70368744177664 ≤ a) (k : a ≤ 70368744177664) (hb : b ≠ 0) : -4611686018427387904 ≤ (65536 * a).tdiv b ∧ (65536 * a).tdiv b ≤ 4611686018427387904 := by
  rw [tdiv_sizes]
  have p := absI_bounds h k
  have q : 1 ≤ absI b := by unfold absI; split <;> omega
  have r := quo_bounds (x := absI a * 65536) (by omega) (by omega) q
  rcases sgn_cases a b with e | e
  · rw [e]; omega
  · rw [e]; omega

/-- Root. -/
def isq : Nat → Nat
  | 0 => 0
  | n + 1 => if (isq n + 1) * (isq n + 1) ≤ n + 1 then isq n + 1 else isq n
theorem isq_spec (n : Nat) : isq n * isq n ≤ n ∧ n < (isq n + 1) * (isq n + 1) := by
  induction n with
  | zero => exact ⟨Nat.le_refl _, by decide⟩
  | succ n ih =>
    unfold isq
    split
    · rename_i h
      refine ⟨h, ?_⟩
      have e : (isq n + 1 + 1) * (isq n + 1 + 1) = (isq n + 1) * (isq n + 1) + 2 * isq n + 3 := by
        generalize isq n = r
        rw [Nat.add_mul, Nat.mul_add]; omega
      omega
    · omega
def root (n : Int) : Int := if cut n < 0 then 0 else (isq (65536 * cut n).toNat : Nat)
theorem sq_mono {a b : Int} (h : 0 ≤ a) (k : a ≤ b) : a * a ≤ b * b := Int.mul_le_mul k k h (by omega)
theorem root_unique {s r q : Int} (r0 : 0 ≤ r) (r1 : r * r ≤ s) (r2 : s < (r + 1) * (r + 1)) (q0 : 0 ≤ q) (q1 : q * q ≤ s) (q2 : s < (q + 1) * (q + 1)) : r = q := by
  by_cases h : r < q
  · have := sq_mono (a := r + 1) (b := q) (by omega) (by omega); omega
  · by_cases k : q < r
    · have := sq_mono (a := q + 1) (b := r) (by omega) (by omega); omega
    · omega
theorem root_is {n : Int} (h : 0 ≤ cut n) : 0 ≤ root n ∧ root n * root n ≤ 65536 * cut n ∧ 65536 * cut n < (root n + 1) * (root n + 1) := by
  unfold root
  rw [if_neg (by omega)]
  obtain ⟨a, b⟩ := isq_spec (65536 * cut n).toNat
  have e : ((65536 * cut n).toNat : Int) = 65536 * cut n := Int.toNat_of_nonneg (by omega)
  refine ⟨Int.natCast_nonneg _, ?_, ?_⟩
  · rw [← Int.natCast_mul]; omega
  · rw [show ((isq (65536 * cut n).toNat : Nat) : Int) + 1 = ((isq (65536 * cut n).toNat + 1 : Nat) : Int) from by omega, ← Int.natCast_mul]; omega
theorem root_neg {n : Int} (h : cut n < 0) : root n = 0 := by unfold root; rw [if_pos h]
theorem root_eq {n r : Int} (h : 0 ≤ cut n) (r0 : 0 ≤ r) (r1 : r * r ≤ 65536 * cut n) (r2 : 65536 * cut n < (r + 1) * (r + 1)) : root n = r := by
  obtain ⟨a, b, c⟩ := root_is h
  exact root_unique a b c r0 r1 r2
theorem root_zero {n : Int} (h : cut n = 0) : root n = 0 := root_eq (by omega) (by omega) (by omega) (by omega)
/-- Halves. -/
theorem mid_sq {l h : Int} (h0 : 0 ≤ l) (h2 : h ≤ 2147483648) (h3 : l < h) : 0 ≤ (l + h + 1) / 2 * ((l + h + 1) / 2) ∧ (l + h + 1) / 2 * ((l + h + 1) / 2) ≤ 4611686018427387904 :=
  ⟨nonneg_mul (by omega) (by omega), sq_mono (a := (l + h + 1) / 2) (b := 2147483648) (by omega) (by omega)⟩
/-- Within bounds. -/
def cl (k n : Int) : Int := if k < n then k else if n < -k then -k else n
theorem cl_hi {k n : Int} (h : k < n) : cl k n = k := by unfold cl; rw [if_pos h]
theorem cl_lo {k n : Int} (h : ¬ k < n) (g : n < -k) : cl k n = -k := by unfold cl; rw [if_neg h, if_pos g]
theorem cl_in {k n : Int} (h : ¬ k < n) (g : ¬ n < -k) : cl k n = n := by unfold cl; rw [if_neg h, if_neg g]
def bound (k : Int) : Int := if k < 0 then 0 else k
/-- Products of vectors. -/
def dot (x y z x' y' z' : Int) : Int := add (add (mul x x') (mul y y')) (mul z z')
def long (x y z : Int) : Int := root (dot x y z x y z)
end Go.Proofs.YtbfkloclmlnahabGreat

namespace Go.Proofs.YtbfkloclmlnahabGreat
open Go.ChangeShapes Go.WideShapes Go.ChangeAt Go.RowKit

theorem cut_calls (n : Int) (w : World) : Calls Tryz.prog 45 #[.int .i64 n] w fun e w' => e = .returned (.int .i64 (cut n)) ∧ Kept w w' := by
  have hmf : ∀ (fn : Fn) (first cap : Array Value) (w : World), (Instr.makeFunc fn first cap).run Tryz.prog w = .ok (.func fn first cap) w := fun _ _ _ _ => rfl
  by_cases h1 : 70368744177664 < n
  · rw [cut_hi h1]
    go_enter Tryz.func45, Tryz.ntmps45
    go_wp2
    go_ret
    exact ⟨rfl, (Kept.refl _).alloc _ _⟩
  · by_cases h2 : n < -70368744177664
    · rw [cut_lo h2]
      go_enter Tryz.func45, Tryz.ntmps45
      go_wp2
      go_ret
      exact ⟨rfl, (Kept.refl _).alloc _ _⟩
    · rw [cut_in (by omega) (by omega)]
      go_enter Tryz.func45, Tryz.ntmps45
      go_wp2
      go_ret
      exact ⟨rfl, (Kept.refl _).alloc _ _⟩
end Go.Proofs.YtbfkloclmlnahabGreat

namespace Go.Proofs.YtbfkloclmlnahabGreat
open Go.ChangeShapes Go.WideShapes Go.ChangeAt Go.RowKit

theorem kept_two {a b c : World} (h : Kept a b) (k : Kept b c) : Kept a c := h.trans k
theorem kept_three {a b c d : World} (h : Kept a b) (k : Kept b c) (l : Kept c d) : Kept a d := (h.trans k).trans l

theorem add_calls (a b : Int) (w : World) : Calls Tryz.prog 28 #[.int .i64 a, .int .i64 b] w fun e w' => e = .returned (.int .i64 (add a b)) ∧ Kept w w' := by
  have a1 := cut_le a; have a2 := cut_ge a; have b1 := cut_le b; have b2 := cut_ge b
  go_enter Tryz.func28, Tryz.ntmps28
  go_wp2_with fail
  refine (cut_calls _ _).mono ?_; rintro e w1 ⟨rfl, k1⟩
  go_wp2_with fail
  refine (cut_calls _ _).mono ?_; rintro e w2 ⟨rfl, k2⟩
  go_wp2_with fail
  refine (cut_calls _ _).mono ?_; rintro e w3 ⟨rfl, k3⟩
  go_wp2_with fail
  go_ret
  exact ⟨rfl, kept_three k1 k2 k3⟩
theorem sub_calls (a b : Int) (w : World) : Calls Tryz.prog 69 #[.int .i64 a, .int .i64 b] w fun e w' => e = .returned (.int .i64 (sub a b)) ∧ Kept w w' := by
  have a1 := cut_le a; have a2 := cut_ge a; have b1 := cut_le b; have b2 := cut_ge b
  go_enter Tryz.func69, Tryz.ntmps69
  go_wp2_with fail
  refine (cut_calls _ _).mono ?_; rintro e w1 ⟨rfl, k1⟩
  go_wp2_with fail
  refine (cut_calls _ _).mono ?_; rintro e w2 ⟨rfl, k2⟩
  go_wp2_with fail
  refine (cut_calls _ _).mono ?_; rintro e w3 ⟨rfl, k3⟩
  go_wp2_with fail
  go_ret
  exact ⟨rfl, kept_three k1 k2 k3⟩
theorem size_calls (n : Int) (w : World) (h : -70368744177664 ≤ n) (k : n ≤ 70368744177664) : Calls Tryz.prog 89 #[.int .i64 n] w fun e w' => e = .returned (.int .u64 (absI n)) ∧ w' = w := by
  by_cases c : n < 0
  · rw [absI_neg c]
    go_enter Tryz.func89, Tryz.ntmps89
    go_wp2
    go_ret
    exact ⟨rfl, rfl⟩
  · rw [absI_pos c]
    go_enter Tryz.func89, Tryz.ntmps89
    go_wp2
    go_ret
    exact ⟨rfl, rfl⟩
theorem endless_calls (a : Int) (w : World) : Calls Tryz.prog 87 #[.int .i64 a] w fun e w' => e = .returned (.int .i64 (endless a)) ∧ w' = w := by
  unfold endless
  by_cases c : 0 < a
  · rw [if_pos c]
    go_enter Tryz.func87, Tryz.ntmps87
    go_wp2
    go_ret
    exact ⟨rfl, rfl⟩
  · rw [if_neg c]
    by_cases d : a < 0
    · rw [if_pos d]
      go_enter Tryz.func87, Tryz.ntmps87
      go_wp2
      go_ret
      exact ⟨rfl, rfl⟩
    · rw [if_neg d]
      go_enter Tryz.func87, Tryz.ntmps87
      go_wp2
      go_ret
      exact ⟨rfl, rfl⟩
end Go.Proofs.YtbfkloclmlnahabGreat

namespace Go.Proofs.YtbfkloclmlnahabGreat
open Go.ChangeShapes Go.WideShapes Go.ChangeAt Go.RowKit Go.Shelf

/-- The library's own contract for bits.Mul64, laid at this program. -/
def mulRen : Go.Shelf.Ren := { f := fun n => if n = 264 then 88 else n, t := fun n => if n = 53 then 134 else if n = 46 then 57 else n, g := fun n => n }
theorem mulLays : Lays.n264 Tryz.prog mulRen := {
  mixed := by kernel_rfl
  f264 := by kernel_rfl
  t46 := by kernel_rfl
  a46 := fun _ => by kernel_rfl
  z46 := fun _ => by kernel_rfl
  v46 := fun _ => by kernel_rfl
  t53 := by kernel_rfl
  a53 := fun _ => by kernel_rfl
  z53 := fun _ => by kernel_rfl
  v53 := fun _ => by kernel_rfl }
theorem mul64_nat (x y : Nat) (hx : x < 18446744073709551616) (hy : y < 18446744073709551616) (w : World) :
    Calls Tryz.prog 88 #[.int .u64 x, .int .u64 y] w fun e w' => e = .returned (.tuple #[.int .u64 ((x * y / 18446744073709551616 : Nat) : Int), .int .u64 ((x * y % 18446744073709551616 : Nat) : Int)]) ∧ w' = w :=
  Any.bits_Mul64 mulLays x y hx hy w

theorem mul64_calls (x y : Int) (w : World) (h : 0 ≤ x) (h' : x ≤ 70368744177664) (k : 0 ≤ y) (k' : y ≤ 70368744177664) :
    Calls Tryz.prog 88 #[.int .u64 x, .int .u64 y] w fun e w' => e = .returned (.tuple #[.int .u64 (hiI x y), .int .u64 (loI x y)]) ∧ w' = w := by
  obtain ⟨a, rfl⟩ := Int.eq_ofNat_of_zero_le h
  obtain ⟨b, rfl⟩ := Int.eq_ofNat_of_zero_le k
  refine (mul64_nat a b (by omega) (by omega) w).mono ?_
  rintro e w' ⟨rfl, rfl⟩
  refine ⟨?_, rfl⟩
  have e1 : ((a * b / 18446744073709551616 : Nat) : Int) = hiI a b := by unfold hiI; rw [← Int.natCast_mul]; rfl
  have e2 : ((a * b % 18446744073709551616 : Nat) : Int) = loI a b := by unfold loI; rw [← Int.natCast_mul]; rfl
  rw [e1, e2]

set_option maxHeartbeats 1000000 in
theorem mul_calls (a b : Int) (w : World) : Calls Tryz.prog 64 #[.int .i64 a, .int .i64 b] w fun e w' => e = .returned (.int .i64 (mul a b)) ∧ Kept w w' := by
  have a1 := cut_le a; have a2 := cut_ge a; have b1 := cut_le b; have b2 := cut_ge b
  obtain ⟨p1, p2⟩ := absI_cut a
  obtain ⟨q1, q2⟩ := absI_cut b
  have hlo := mul_lo (a := a) (b := b)
  have hhi := mul_hi (a := a) (b := b)
  have same := mul_same (a := a) (b := b)
  have other := mul_other (a := a) (b := b)
  obtain ⟨l1, l2⟩ := lo_bounds (absI (cut a)) (absI (cut b))
  obtain ⟨g1, g2⟩ := hi_bounds p1 p2 q1 q2
  have l3 : loI (absI (cut a)) (absI (cut b)) / 65536 ≤ 281474976710655 := by omega
  by_cases ca : cut a < 0 <;> by_cases cb : cut b < 0 <;> by_cases z : hiI (absI (cut a)) (absI (cut b)) = 0
  all_goals
    first
    | (have F := same (iff_of_true ca cb); clear same other)
    | (have F := same (iff_of_false ca cb); clear same other)
    | (have F := other (iff_of_true ca cb); clear same other)
    | (have F := other (iff_of_false ca (fun h => h cb)); clear same other)
    first
    | (rw [← hlo z] at F; have z' : (hiI (absI (cut a)) (absI (cut b)) == 0) = true := by simpa using z)
    | (rw [hhi z] at F; have z' : (hiI (absI (cut a)) (absI (cut b)) == 0) = false := by simpa using z)
    clear hlo hhi z
    have HF : Hid _ := F
    clear F
    first
    | (have da : decide (cut a < 0) = true := by simpa using ca)
    | (have da : decide (cut a < 0) = false := by simpa using ca)
    first
    | (have db : decide (cut b < 0) = true := by simpa using cb)
    | (have db : decide (cut b < 0) = false := by simpa using cb)
    go_enter Tryz.func64, Tryz.ntmps64
    go_wp2_with fail
    refine (cut_calls _ _).mono ?_; rintro e w1 ⟨rfl, k1⟩
    go_wp2_with fail
    refine (cut_calls _ _).mono ?_; rintro e w2 ⟨rfl, k2⟩
    go_wp2_with fail
    refine (size_calls _ _ (by omega) (by omega)).mono ?_; rintro e w3 ⟨rfl, rfl⟩
    go_wp2_with fail
    refine (size_calls _ _ (by omega) (by omega)).mono ?_; rintro e w4 ⟨rfl, rfl⟩
    go_wp2_with fail
    refine (mul64_calls _ _ _ (by omega) (by omega) (by omega) (by omega)).mono ?_; rintro e w5 ⟨rfl, rfl⟩
    go_wp2_with fail
    refine (cut_calls _ _).mono ?_; rintro e w6 ⟨rfl, k6⟩
    go_wp2_with fail
    go_ret
    refine ⟨ret_int ?_, kept_three k1 k2 k6⟩
    first | exact HF.out.symm | exact (cut_neg _).trans HF.out.symm | exact cut_T.trans HF.out.symm | exact cut_nT.trans HF.out.symm
end Go.Proofs.YtbfkloclmlnahabGreat

namespace Go.Proofs.YtbfkloclmlnahabGreat
open Go.ChangeShapes Go.WideShapes Go.ChangeAt Go.RowKit

set_option maxHeartbeats 1000000 in
theorem div_calls (a b : Int) (w : World) : Calls Tryz.prog 63 #[.int .i64 a, .int .i64 b] w fun e w' => e = .returned (.int .i64 (div a b)) ∧ Kept w w' := by
  have a1 := cut_le a; have a2 := cut_ge a; have b1 := cut_le b; have b2 := cut_ge b
  by_cases z : cut b = 0
  · have F := div_zero (a := a) z
    have HF : Hid _ := F
    have z' : (cut b == 0) = true := by simpa using z
    clear z F
    go_enter Tryz.func63, Tryz.ntmps63
    go_wp2_with fail
    refine (cut_calls _ _).mono ?_; rintro e w1 ⟨rfl, k1⟩
    go_wp2_with fail
    refine (cut_calls _ _).mono ?_; rintro e w2 ⟨rfl, k2⟩
    go_wp2_with fail
    refine (endless_calls _ _).mono ?_; rintro e w3 ⟨rfl, rfl⟩
    go_wp2_with fail
    go_ret
    exact ⟨ret_int HF.out.symm, kept_two k1 k2⟩
  · have F := div_else (a := a) z
    have HF : Hid _ := F
    have z' : (cut b == 0) = false := by simpa using z
    obtain ⟨t1, t2⟩ := tdiv_bounds a2 a1 z
    clear F
    go_enter Tryz.func63, Tryz.ntmps63
    go_wp2_with fail
    refine (cut_calls _ _).mono ?_; rintro e w1 ⟨rfl, k1⟩
    go_wp2_with fail
    refine (cut_calls _ _).mono ?_; rintro e w2 ⟨rfl, k2⟩
    go_wp2_with fail
    refine (cut_calls _ _).mono ?_; rintro e w3 ⟨rfl, k3⟩
    go_wp2_with fail
    go_ret
    exact ⟨ret_int HF.out.symm, kept_three k1 k2 k3⟩

end Go.Proofs.YtbfkloclmlnahabGreat

namespace Go.Proofs.YtbfkloclmlnahabGreat
open Go.ChangeShapes Go.WideShapes Go.ChangeAt Go.RowKit

/-- What holds of both ends at each round's head: the root of s lies between them. -/
def Ends (s l h : Int) : Prop := 0 ≤ l ∧ l ≤ h ∧ h ≤ 2147483648 ∧ l * l ≤ s ∧ s < (h + 1) * (h + 1)
theorem ends_up {s l h : Int} (e : Ends s l h) (k : l < h) (m : (l + h + 1) / 2 * ((l + h + 1) / 2) ≤ s) : Ends s ((l + h + 1) / 2) h := by
  obtain ⟨a, b, c, d, f⟩ := e
  exact ⟨by omega, by omega, c, m, f⟩
theorem ends_down {s l h : Int} (e : Ends s l h) (k : l < h) (m : ¬ (l + h + 1) / 2 * ((l + h + 1) / 2) ≤ s) : Ends s l ((l + h + 1) / 2 - 1) := by
  obtain ⟨a, b, c, d, f⟩ := e
  refine ⟨a, by omega, by omega, d, ?_⟩
  rw [show (l + h + 1) / 2 - 1 + 1 = (l + h + 1) / 2 by omega]; omega
theorem ends_meet {n l h : Int} (p : 0 ≤ cut n) (e : Ends (65536 * cut n) l h) (k : ¬ l < h) : l = root n := by
  obtain ⟨a, b, c, d, f⟩ := e
  have : h = l := by omega
  subst this
  exact (root_eq p a d f).symm
theorem ends_start {s : Int} (a : 0 ≤ s) (b : s ≤ 4611686018427387904) : Ends s 0 2147483648 := ⟨by omega, by omega, by omega, by omega, by omega⟩

set_option maxHeartbeats 1000000 in
theorem root_calls (n : Int) (w : World) : Calls Tryz.prog 91 #[.int .i64 n] w fun e w' => e = .returned (.int .i64 (root n)) ∧ Kept w w' := by
  have a1 := cut_le n; have a2 := cut_ge n
  by_cases p : cut n ≤ 0
  · have F : root n = 0 := by
      by_cases q : cut n < 0
      · exact root_neg q
      · exact root_zero (by omega)
    have HF : Hid _ := F
    clear F
    have q : 65536 * cut n ≤ 0 := by omega
    go_enter Tryz.func91, Tryz.ntmps91
    go_wp2_with fail
    refine (cut_calls _ _).mono ?_; rintro e w1 ⟨rfl, k1⟩
    go_wp2_with fail
    go_ret
    exact ⟨ret_int HF.out.symm, k1⟩
  · have p0 : 0 < 65536 * cut n := by omega
    have p' : 0 ≤ cut n := by omega
    have hd : decide (65536 * cut n ≤ 0) = false := by simpa using p0
    go_enter Tryz.func91, Tryz.ntmps91
    go_wp2_with fail
    refine (cut_calls _ _).mono ?_; rintro e w1 ⟨rfl, k1⟩
    go_wp2_with fail
    go_loop [4, 5] (fun lo hi => ∃ l h : Int, Ends (65536 * cut n) l h ∧ lo = .int .i64 l ∧ hi = .int .i64 h) (fun lo hi => (intOf hi - intOf lo).toNat)
    case atStart => exact ⟨0, 2147483648, ends_start (by omega) (by omega), rfl, rfl⟩
    case round =>
      obtain ⟨l, h, he, rfl, rfl⟩ := hrel
      obtain ⟨h0, h1, h2, _, _⟩ := id he
      by_cases k : l < h
      · obtain ⟨m0, m1⟩ := mid_sq h0 h2 k
        by_cases m : (l + h + 1) / 2 * ((l + h + 1) / 2) ≤ 65536 * cut n
        · have up := ends_up he k m
          go_wp2
          go_round
          case rel => exact ⟨_, _, up, rfl, rfl⟩
          case measure => simp [intOf]; omega
        · have down := ends_down he k m
          go_wp2
          go_round
          case rel => exact ⟨_, _, down, rfl, rfl⟩
          case measure => simp [intOf]; omega
      · have fin := ends_meet p' he k
        have HF : Hid _ := fin
        clear fin
        go_wp2
        go_ret
        exact ⟨ret_int HF.out, k1⟩

end Go.Proofs.YtbfkloclmlnahabGreat

namespace Go.Proofs.YtbfkloclmlnahabGreat
open Go.ChangeShapes Go.WideShapes Go.ChangeAt Go.RowKit

theorem kept_cell {w1 w2 : World} (k : Kept w1 w2) {a : Addr} {v : Value} (h : w1.cell? a = some v) : w2.cell? a = some v := by
  rw [k.below.cell (World.block_lt_of_cell? w1 a h)]; exact h
theorem kept_frozen {w1 w2 : World} (k : Kept w1 w2) {a : Addr} {b : Bool} (h : w1.frozen? a = b) : w2.frozen? a = b := (k.grown.2.1 a).trans h
/-- What a cell holds, whichever. -/
def cellV (w : World) (a : Addr) : Value := (w.cell? a).getD undef
theorem cellV_of {w : World} {a : Addr} {v : Value} (h : w.cell? a = some v) : w.cell? a = some (cellV w a) := by unfold cellV; rw [h]; rfl
theorem kept_there {w1 w2 : World} (k : Kept w1 w2) {a : Addr} (h : w1.cell? a = some (cellV w1 a)) : w2.cell? a = some (cellV w2 a) := cellV_of (kept_cell k h)
theorem put_there {w1 : World} {p a : Addr} {v : Value} (h : w1.cell? a = some (cellV w1 a)) : (w1.setCell p v).cell? a = some (cellV (w1.setCell p v) a) := by
  obtain ⟨u, hu⟩ := cell?_setCell_some (w := w1) (p := p) (x := v) (q := a) h
  exact cellV_of hu

theorem later {w : World} {a : Addr} {v : Value} (h : w.cell? a = some v) : ∀ o, (w.alloc o).cell? a = some v := fun _ => (World.cell?_alloc_lt _ _ _ (World.block_lt_of_cell? w a h)).trans h
theorem laterF {w : World} {a : Addr} {b : Bool} (h : w.frozen? a = b) : ∀ c t, (w.alloc (.cells c t)).frozen? a = b := fun c t => (frozen?_alloc_cells w c t a).trans h
/-- A cell that was just stored into holds what was stored. -/
theorem got_set {w : World} {p : Addr} {v u : Value} (h : (w.setCell p v).cell? p = some u) : (w.setCell p v).cell? p = some v := by
  cases hw : w.cell? p with
  | some x => exact World.cell?_setCell_same w p v hw
  | none =>
    exfalso
    simp only [World.setCell, World.cell?, Array.getElem?_modify, if_true] at h hw
    cases hh : w.heap[p.block]? with
    | none => simp [hh] at h
    | some o =>
      cases o with
      | cells c e f =>
        simp only [hh, Option.map_some] at h hw
        cases hs : p.spot.isSome with
        | true => simp [hs] at h
        | false =>
          simp only [hs, Bool.false_eq_true, if_false] at h hw
          have : ¬ p.off < c.size := fun hl => by simp [Array.getElem?_eq_getElem hl] at hw
          rw [Array.getElem?_eq_none (by simp; omega)] at h
          cases h
      | _ => simp [hh] at h
theorem set3 {w : World} {b : Nat} {v0 v1 v2 u0 u1 u2 : Value}
    (h0 : (((w.setCell ⟨b, 0, none⟩ v0).setCell ⟨b, 1, none⟩ v1).setCell ⟨b, 2, none⟩ v2).cell? ⟨b, 0, none⟩ = some u0)
    (h1 : (((w.setCell ⟨b, 0, none⟩ v0).setCell ⟨b, 1, none⟩ v1).setCell ⟨b, 2, none⟩ v2).cell? ⟨b, 1, none⟩ = some u1)
    (h2 : (((w.setCell ⟨b, 0, none⟩ v0).setCell ⟨b, 1, none⟩ v1).setCell ⟨b, 2, none⟩ v2).cell? ⟨b, 2, none⟩ = some u2) :
    (((w.setCell ⟨b, 0, none⟩ v0).setCell ⟨b, 1, none⟩ v1).setCell ⟨b, 2, none⟩ v2).cell? ⟨b, 0, none⟩ = some v0 ∧
    (((w.setCell ⟨b, 0, none⟩ v0).setCell ⟨b, 1, none⟩ v1).setCell ⟨b, 2, none⟩ v2).cell? ⟨b, 1, none⟩ = some v1 ∧
    (((w.setCell ⟨b, 0, none⟩ v0).setCell ⟨b, 1, none⟩ v1).setCell ⟨b, 2, none⟩ v2).cell? ⟨b, 2, none⟩ = some v2 := by
  have n1 : ∀ i j : Nat, i ≠ j → (⟨b, i, none⟩ : Addr) ≠ ⟨b, j, none⟩ := fun i j h e => h (by injection e)
  refine ⟨?_, ?_, got_set h2⟩
  · rw [World.cell?_setCell_other _ _ _ _ (n1 2 0 (by omega)), World.cell?_setCell_other _ _ _ _ (n1 1 0 (by omega))] at h0 ⊢
    exact got_set h0
  · rw [World.cell?_setCell_other _ _ _ _ (n1 2 1 (by omega))] at h1 ⊢
    exact got_set h1

theorem set3_of {w : World} {b : Nat} {v0 v1 v2 u0 u1 u2 : Value} (h0 : w.cell? ⟨b, 0, none⟩ = some u0) (h1 : w.cell? ⟨b, 1, none⟩ = some u1) (h2 : w.cell? ⟨b, 2, none⟩ = some u2) :
    (((w.setCell ⟨b, 0, none⟩ v0).setCell ⟨b, 1, none⟩ v1).setCell ⟨b, 2, none⟩ v2).cell? ⟨b, 0, none⟩ = some v0 ∧
    (((w.setCell ⟨b, 0, none⟩ v0).setCell ⟨b, 1, none⟩ v1).setCell ⟨b, 2, none⟩ v2).cell? ⟨b, 1, none⟩ = some v1 ∧
    (((w.setCell ⟨b, 0, none⟩ v0).setCell ⟨b, 1, none⟩ v1).setCell ⟨b, 2, none⟩ v2).cell? ⟨b, 2, none⟩ = some v2 := by
  obtain ⟨_, a0⟩ := cell?_setCell_some (w := w) (p := ⟨b, 0, none⟩) (x := v0) h0
  obtain ⟨_, a1⟩ := cell?_setCell_some (w := w) (p := ⟨b, 0, none⟩) (x := v0) h1
  obtain ⟨_, a2⟩ := cell?_setCell_some (w := w) (p := ⟨b, 0, none⟩) (x := v0) h2
  obtain ⟨_, b0⟩ := cell?_setCell_some (p := ⟨b, 1, none⟩) (x := v1) a0
  obtain ⟨_, b1⟩ := cell?_setCell_some (p := ⟨b, 1, none⟩) (x := v1) a1
  obtain ⟨_, b2⟩ := cell?_setCell_some (p := ⟨b, 1, none⟩) (x := v1) a2
  obtain ⟨_, d0⟩ := cell?_setCell_some (p := ⟨b, 2, none⟩) (x := v2) b0
  obtain ⟨_, d1⟩ := cell?_setCell_some (p := ⟨b, 2, none⟩) (x := v2) b1
  obtain ⟨_, d2⟩ := cell?_setCell_some (p := ⟨b, 2, none⟩) (x := v2) b2
  exact set3 d0 d1 d2
theorem kept_set3 {w w1 : World} {b : Nat} (k : Kept w w1) (h : w.heap.size ≤ b) (v0 v1 v2 : Value) : Kept w (((w1.setCell ⟨b, 0, none⟩ v0).setCell ⟨b, 1, none⟩ v1).setCell ⟨b, 2, none⟩ v2) :=
  ((k.setCell (p := ⟨b, 0, none⟩) h v0).setCell (p := ⟨b, 1, none⟩) h v1).setCell (p := ⟨b, 2, none⟩) h v2

def Room33o (w : World) (v0 v1 v2 v3 v4 v5 : Value) (w' : World) : Prop :=
  Kept w w' ∧
  w'.cell? ⟨w.heap.size, 0, none⟩ = some v0 ∧
  w'.cell? ⟨w.heap.size, 1, none⟩ = some v1 ∧
  w'.cell? ⟨w.heap.size, 2, none⟩ = some v2 ∧
  w'.cell? ⟨w.heap.size + 1, 0, none⟩ = some v3 ∧
  w'.cell? ⟨w.heap.size + 1, 1, none⟩ = some v4 ∧
  w'.cell? ⟨w.heap.size + 1, 2, none⟩ = some v5 ∧
  w'.cell? ⟨w.heap.size + 1 + 1, 0, none⟩ = some (cellV w' ⟨w.heap.size + 1 + 1, 0, none⟩) ∧
  w'.cell? ⟨w.heap.size + 1 + 1, 1, none⟩ = some (cellV w' ⟨w.heap.size + 1 + 1, 1, none⟩) ∧
  w'.cell? ⟨w.heap.size + 1 + 1, 2, none⟩ = some (cellV w' ⟨w.heap.size + 1 + 1, 2, none⟩) ∧
  w'.frozen? ⟨w.heap.size + 1 + 1, 0, none⟩ = false ∧
  w'.frozen? ⟨w.heap.size + 1 + 1, 1, none⟩ = false ∧
  w'.frozen? ⟨w.heap.size + 1 + 1, 2, none⟩ = false
theorem Room33o.step {w w1 w2 : World} {v0 v1 v2 v3 v4 v5 : Value} (k : Kept w1 w2) (h : Room33o w v0 v1 v2 v3 v4 v5 w1) : Room33o w v0 v1 v2 v3 v4 v5 w2 := by
  obtain ⟨h0, h1, h2, h3, h4, h5, h6, h7, h8, h9, h10, h11, h12⟩ := h
  exact ⟨h0.trans k, kept_cell k h1, kept_cell k h2, kept_cell k h3, kept_cell k h4, kept_cell k h5, kept_cell k h6, kept_there k h7, kept_there k h8, kept_there k h9, kept_frozen k h10, kept_frozen k h11, kept_frozen k h12⟩
theorem Room33o.start (w : World) (v0 v1 v2 v3 v4 v5 : Value) (o0_0 o0_1 o0_2 : Value) (t0 t1 t2 : TypeId) : Room33o w v0 v1 v2 v3 v4 v5 (((w.alloc (.cells #[v0, v1, v2] t0)).alloc (.cells #[v3, v4, v5] t1)).alloc (.cells #[o0_0, o0_1, o0_2] t2)).drew := by
  refine ⟨((((Kept.refl w).alloc _ _).alloc _ _).alloc _ _).drew, ?_, ?_, ?_, ?_, ?_, ?_, cellV_of (v := o0_0) ?_, cellV_of (v := o0_1) ?_, cellV_of (v := o0_2) ?_, ?_, ?_, ?_⟩
  all_goals go_simp
theorem Room33o.put {w w1 : World} {v0 v1 v2 v3 v4 v5 : Value} (q i : Nat) (v : Value) (hq : 2 ≤ q) (h : Room33o w v0 v1 v2 v3 v4 v5 w1) : Room33o w v0 v1 v2 v3 v4 v5 (w1.setCell ⟨w.heap.size + q, i, none⟩ v) := by
  obtain ⟨h0, h1, h2, h3, h4, h5, h6, h7, h8, h9, h10, h11, h12⟩ := h
  exact ⟨h0.setCell (p := ⟨w.heap.size + q, i, none⟩) (Nat.le_add_right _ _) v, (World.cell?_setCell_far _ _ _ _ (by simp; omega)).trans h1, (World.cell?_setCell_far _ _ _ _ (by simp; omega)).trans h2, (World.cell?_setCell_far _ _ _ _ (by simp; omega)).trans h3, (World.cell?_setCell_far _ _ _ _ (by simp; omega)).trans h4, (World.cell?_setCell_far _ _ _ _ (by simp; omega)).trans h5, (World.cell?_setCell_far _ _ _ _ (by simp; omega)).trans h6, put_there h7, put_there h8, put_there h9, (World.frozen?_setCell _ _ _ _).trans h10, (World.frozen?_setCell _ _ _ _).trans h11, (World.frozen?_setCell _ _ _ _).trans h12⟩

def Room33 (w : World) (v0 v1 v2 v3 v4 v5 : Value) (w' : World) : Prop :=
  Kept w w' ∧
  w'.cell? ⟨w.heap.size, 0, none⟩ = some v0 ∧
  w'.cell? ⟨w.heap.size, 1, none⟩ = some v1 ∧
  w'.cell? ⟨w.heap.size, 2, none⟩ = some v2 ∧
  w'.cell? ⟨w.heap.size + 1, 0, none⟩ = some v3 ∧
  w'.cell? ⟨w.heap.size + 1, 1, none⟩ = some v4 ∧
  w'.cell? ⟨w.heap.size + 1, 2, none⟩ = some v5
theorem Room33.step {w w1 w2 : World} {v0 v1 v2 v3 v4 v5 : Value} (k : Kept w1 w2) (h : Room33 w v0 v1 v2 v3 v4 v5 w1) : Room33 w v0 v1 v2 v3 v4 v5 w2 := by
  obtain ⟨h0, h1, h2, h3, h4, h5, h6⟩ := h
  exact ⟨h0.trans k, kept_cell k h1, kept_cell k h2, kept_cell k h3, kept_cell k h4, kept_cell k h5, kept_cell k h6⟩
theorem Room33.start (w : World) (v0 v1 v2 v3 v4 v5 : Value) (t0 t1 : TypeId) : Room33 w v0 v1 v2 v3 v4 v5 ((w.alloc (.cells #[v0, v1, v2] t0)).alloc (.cells #[v3, v4, v5] t1)).drew := by
  refine ⟨(((Kept.refl w).alloc _ _).alloc _ _).drew, ?_, ?_, ?_, ?_, ?_, ?_⟩
  all_goals go_simp

def Room3o (w : World) (v0 v1 v2 : Value) (w' : World) : Prop :=
  Kept w w' ∧
  w'.cell? ⟨w.heap.size, 0, none⟩ = some v0 ∧
  w'.cell? ⟨w.heap.size, 1, none⟩ = some v1 ∧
  w'.cell? ⟨w.heap.size, 2, none⟩ = some v2 ∧
  w'.cell? ⟨w.heap.size + 1, 0, none⟩ = some (cellV w' ⟨w.heap.size + 1, 0, none⟩) ∧
  w'.cell? ⟨w.heap.size + 1, 1, none⟩ = some (cellV w' ⟨w.heap.size + 1, 1, none⟩) ∧
  w'.cell? ⟨w.heap.size + 1, 2, none⟩ = some (cellV w' ⟨w.heap.size + 1, 2, none⟩) ∧
  w'.frozen? ⟨w.heap.size + 1, 0, none⟩ = false ∧
  w'.frozen? ⟨w.heap.size + 1, 1, none⟩ = false ∧
  w'.frozen? ⟨w.heap.size + 1, 2, none⟩ = false
theorem Room3o.step {w w1 w2 : World} {v0 v1 v2 : Value} (k : Kept w1 w2) (h : Room3o w v0 v1 v2 w1) : Room3o w v0 v1 v2 w2 := by
  obtain ⟨h0, h1, h2, h3, h4, h5, h6, h7, h8, h9⟩ := h
  exact ⟨h0.trans k, kept_cell k h1, kept_cell k h2, kept_cell k h3, kept_there k h4, kept_there k h5, kept_there k h6, kept_frozen k h7, kept_frozen k h8, kept_frozen k h9⟩
theorem Room3o.start (w : World) (v0 v1 v2 : Value) (o0_0 o0_1 o0_2 : Value) (t0 t1 : TypeId) : Room3o w v0 v1 v2 ((w.alloc (.cells #[v0, v1, v2] t0)).alloc (.cells #[o0_0, o0_1, o0_2] t1)).drew := by
  refine ⟨(((Kept.refl w).alloc _ _).alloc _ _).drew, ?_, ?_, ?_, cellV_of (v := o0_0) ?_, cellV_of (v := o0_1) ?_, cellV_of (v := o0_2) ?_, ?_, ?_, ?_⟩
  all_goals go_simp
theorem Room3o.put {w w1 : World} {v0 v1 v2 : Value} (q i : Nat) (v : Value) (hq : 1 ≤ q) (h : Room3o w v0 v1 v2 w1) : Room3o w v0 v1 v2 (w1.setCell ⟨w.heap.size + q, i, none⟩ v) := by
  obtain ⟨h0, h1, h2, h3, h4, h5, h6, h7, h8, h9⟩ := h
  exact ⟨h0.setCell (p := ⟨w.heap.size + q, i, none⟩) (Nat.le_add_right _ _) v, (World.cell?_setCell_far _ _ _ _ (by simp; omega)).trans h1, (World.cell?_setCell_far _ _ _ _ (by simp; omega)).trans h2, (World.cell?_setCell_far _ _ _ _ (by simp; omega)).trans h3, put_there h4, put_there h5, put_there h6, (World.frozen?_setCell _ _ _ _).trans h7, (World.frozen?_setCell _ _ _ _).trans h8, (World.frozen?_setCell _ _ _ _).trans h9⟩

end Go.Proofs.YtbfkloclmlnahabGreat

namespace Go.Proofs.YtbfkloclmlnahabGreat
open Go.ChangeShapes Go.WideShapes Go.ChangeAt Go.RowKit

theorem plus_calls (x y z x' y' z' : Int) (w : World) :
    Calls Tryz.prog 13 #[.agg #[.int .i64 x, .int .i64 y, .int .i64 z], .agg #[.int .i64 x', .int .i64 y', .int .i64 z']] w fun e w' => e = .returned (.agg #[.int .i64 (add x x'), .int .i64 (add y y'), .int .i64 (add z z')]) ∧ Kept w w' := by
  go_enter Tryz.func13, Tryz.ntmps13
  go_wp2
  go_region_held3 (fun w' => Kept w w' ∧ w'.cell? ⟨w.heap.size, 0, none⟩ = some (.int .i64 x) ∧ w'.cell? ⟨w.heap.size, 1, none⟩ = some (.int .i64 y) ∧ w'.cell? ⟨w.heap.size, 2, none⟩ = some (.int .i64 z) ∧ w'.cell? ⟨w.heap.size + 1, 0, none⟩ = some (.int .i64 x') ∧ w'.cell? ⟨w.heap.size + 1, 1, none⟩ = some (.int .i64 y') ∧ w'.cell? ⟨w.heap.size + 1, 2, none⟩ = some (.int .i64 z') ∧ w'.cell? ⟨w.heap.size + 1 + 1, 0, none⟩ = some (cellV w' ⟨w.heap.size + 1 + 1, 0, none⟩) ∧ w'.cell? ⟨w.heap.size + 1 + 1, 1, none⟩ = some (cellV w' ⟨w.heap.size + 1 + 1, 1, none⟩) ∧ w'.cell? ⟨w.heap.size + 1 + 1, 2, none⟩ = some (cellV w' ⟨w.heap.size + 1 + 1, 2, none⟩) ∧ w'.frozen? ⟨w.heap.size + 1 + 1, 0, none⟩ = false ∧ w'.frozen? ⟨w.heap.size + 1 + 1, 1, none⟩ = false ∧ w'.frozen? ⟨w.heap.size + 1 + 1, 2, none⟩ = false)
    (first | (refine Room33o.step k ?_; assumption) | exact Room33o.start .. | (refine Room33o.put 2 2 _ (by omega) (Room33o.put 2 1 _ (by omega) (Room33o.put 2 0 _ (by omega) ?_)); assumption))
    (first | (go_at_call 28; refine (add_calls _ _ _).mono ?_; rintro e w' ⟨rfl, k⟩))
  rename_i hh
  go_wp2
  obtain ⟨hk, _, _, _, _, _, _, c0, c1, c2, _⟩ := hh
  obtain ⟨e0, e1, e2⟩ := set3 c0 c1 c2
  clear c0 c1 c2
  exact bodyPost_ret (v := .agg #[.int .i64 (add x x'), .int .i64 (add y y'), .int .i64 (add z z')]) (by simp [results, Tryz.results13, go_sem, e0, e1, e2]) rfl ⟨rfl, hk⟩
theorem minus_calls (x y z x' y' z' : Int) (w : World) :
    Calls Tryz.prog 52 #[.agg #[.int .i64 x, .int .i64 y, .int .i64 z], .agg #[.int .i64 x', .int .i64 y', .int .i64 z']] w fun e w' => e = .returned (.agg #[.int .i64 (sub x x'), .int .i64 (sub y y'), .int .i64 (sub z z')]) ∧ Kept w w' := by
  go_enter Tryz.func52, Tryz.ntmps52
  go_wp2
  go_region_held3 (fun w' => Kept w w' ∧ w'.cell? ⟨w.heap.size, 0, none⟩ = some (.int .i64 x) ∧ w'.cell? ⟨w.heap.size, 1, none⟩ = some (.int .i64 y) ∧ w'.cell? ⟨w.heap.size, 2, none⟩ = some (.int .i64 z) ∧ w'.cell? ⟨w.heap.size + 1, 0, none⟩ = some (.int .i64 x') ∧ w'.cell? ⟨w.heap.size + 1, 1, none⟩ = some (.int .i64 y') ∧ w'.cell? ⟨w.heap.size + 1, 2, none⟩ = some (.int .i64 z') ∧ w'.cell? ⟨w.heap.size + 1 + 1, 0, none⟩ = some (cellV w' ⟨w.heap.size + 1 + 1, 0, none⟩) ∧ w'.cell? ⟨w.heap.size + 1 + 1, 1, none⟩ = some (cellV w' ⟨w.heap.size + 1 + 1, 1, none⟩) ∧ w'.cell? ⟨w.heap.size + 1 + 1, 2, none⟩ = some (cellV w' ⟨w.heap.size + 1 + 1, 2, none⟩) ∧ w'.frozen? ⟨w.heap.size + 1 + 1, 0, none⟩ = false ∧ w'.frozen? ⟨w.heap.size + 1 + 1, 1, none⟩ = false ∧ w'.frozen? ⟨w.heap.size + 1 + 1, 2, none⟩ = false)
    (first | (refine Room33o.step k ?_; assumption) | exact Room33o.start .. | (refine Room33o.put 2 2 _ (by omega) (Room33o.put 2 1 _ (by omega) (Room33o.put 2 0 _ (by omega) ?_)); assumption))
    (first | (go_at_call 69; refine (sub_calls _ _ _).mono ?_; rintro e w' ⟨rfl, k⟩))
  rename_i hh
  go_wp2
  obtain ⟨hk, _, _, _, _, _, _, c0, c1, c2, _⟩ := hh
  obtain ⟨e0, e1, e2⟩ := set3 c0 c1 c2
  clear c0 c1 c2
  exact bodyPost_ret (v := .agg #[.int .i64 (sub x x'), .int .i64 (sub y y'), .int .i64 (sub z z')]) (by simp [results, Tryz.results52, go_sem, e0, e1, e2]) rfl ⟨rfl, hk⟩
end Go.Proofs.YtbfkloclmlnahabGreat

namespace Go.Proofs.YtbfkloclmlnahabGreat
open Go.ChangeShapes Go.WideShapes Go.ChangeAt Go.RowKit

theorem each_calls (fn : Nat) (p : Addr) (k : Int) (f : Int → Int) (he : ∀ args w, (callFunc fn args).run Tryz.prog w = .ok (.enter fn args) w)
    (hf : Hid (∀ n w', w'.cell? p = some (.int .i64 k) → Calls Tryz.prog fn #[.int .i64 n, .pointer (some p)] w' fun e w'' => e = .returned (.int .i64 (f n)) ∧ Kept w' w''))
    (x y z : Int) (w : World) (hp : w.cell? p = some (.int .i64 k)) :
    Calls Tryz.prog 26 #[.agg #[.int .i64 x, .int .i64 y, .int .i64 z], .func (.func fn) #[] #[.pointer (some p)]] w fun e w' => e = .returned (.agg #[.int .i64 (f x), .int .i64 (f y), .int .i64 (f z)]) ∧ Kept w w' := by
  have HP : Hid (w.cell? p = some (.int .i64 k)) := hp
  clear hp
  go_enter Tryz.func26, Tryz.ntmps26
  go_wp2
  go_region_held3 (fun w' => Kept w w' ∧ w'.cell? ⟨w.heap.size, 0, none⟩ = some (.int .i64 x) ∧ w'.cell? ⟨w.heap.size, 1, none⟩ = some (.int .i64 y) ∧ w'.cell? ⟨w.heap.size, 2, none⟩ = some (.int .i64 z) ∧ w'.cell? ⟨w.heap.size + 1, 0, none⟩ = some (cellV w' ⟨w.heap.size + 1, 0, none⟩) ∧ w'.cell? ⟨w.heap.size + 1, 1, none⟩ = some (cellV w' ⟨w.heap.size + 1, 1, none⟩) ∧ w'.cell? ⟨w.heap.size + 1, 2, none⟩ = some (cellV w' ⟨w.heap.size + 1, 2, none⟩) ∧ w'.frozen? ⟨w.heap.size + 1, 0, none⟩ = false ∧ w'.frozen? ⟨w.heap.size + 1, 1, none⟩ = false ∧ w'.frozen? ⟨w.heap.size + 1, 2, none⟩ = false)
    (first | (refine Room3o.step k ?_; assumption) | exact Room3o.start .. | (refine Room3o.put 1 2 _ (by omega) (Room3o.put 1 1 _ (by omega) (Room3o.put 1 0 _ (by omega) ?_)); assumption))
    (first | (go_at_fn fn; refine (hf.out _ _ (kept_cell (And.left (by assumption)) HP.out)).mono ?_; rintro e w' ⟨rfl, k⟩))
  rename_i hh
  go_wp2
  obtain ⟨hk, _, _, _, c0, c1, c2, _⟩ := hh
  obtain ⟨e0, e1, e2⟩ := set3 c0 c1 c2
  clear c0 c1 c2
  exact bodyPost_ret (v := .agg #[.int .i64 (f x), .int .i64 (f y), .int .i64 (f z)]) (by simp [results, Tryz.results26, go_sem, e0, e1, e2]) rfl ⟨rfl, hk⟩
end Go.Proofs.YtbfkloclmlnahabGreat

namespace Go.Proofs.YtbfkloclmlnahabGreat
open Go.ChangeShapes Go.WideShapes Go.ChangeAt Go.RowKit

theorem times1_calls (p : Addr) (k n : Int) (w : World) (hp : w.cell? p = some (.int .i64 k)) :
    Calls Tryz.prog 90 #[.int .i64 n, .pointer (some p)] w fun e w' => e = .returned (.int .i64 (mul n k)) ∧ Kept w w' := by
  go_enter Tryz.func90, Tryz.ntmps90
  go_wp2_with (go_at_call 64; refine (mul_calls _ _ _).mono ?_; rintro e w1 ⟨rfl, k1⟩)
  go_ret
  exact ⟨rfl, k1⟩
theorem unit1_calls (p : Addr) (k n : Int) (w : World) (hp : w.cell? p = some (.int .i64 k)) :
    Calls Tryz.prog 92 #[.int .i64 n, .pointer (some p)] w fun e w' => e = .returned (.int .i64 (div n k)) ∧ Kept w w' := by
  go_enter Tryz.func92, Tryz.ntmps92
  go_wp2_with (go_at_call 63; refine (div_calls _ _ _).mono ?_; rintro e w1 ⟨rfl, k1⟩)
  go_ret
  exact ⟨rfl, k1⟩
theorem within1_calls (p : Addr) (k n : Int) (w : World) (k0 : 0 ≤ k) (k1 : k ≤ 9223372036854775807) (hp : w.cell? p = some (.int .i64 k)) :
    Calls Tryz.prog 44 #[.int .i64 n, .pointer (some p)] w fun e w' => e = .returned (.int .i64 (cl k n)) ∧ Kept w w' := by
  by_cases h1 : k < n
  · rw [cl_hi h1]
    go_enter Tryz.func44, Tryz.ntmps44
    go_wp2
    go_ret
    exact ⟨rfl, Kept.refl _⟩
  · by_cases h2 : n < -k
    · rw [cl_lo h1 h2]
      go_enter Tryz.func44, Tryz.ntmps44
      go_wp2
      go_ret
      exact ⟨rfl, Kept.refl _⟩
    · rw [cl_in h1 h2]
      go_enter Tryz.func44, Tryz.ntmps44
      go_wp2
      go_ret
      exact ⟨rfl, Kept.refl _⟩
end Go.Proofs.YtbfkloclmlnahabGreat

namespace Go.Proofs.YtbfkloclmlnahabGreat
open Go.ChangeShapes Go.WideShapes Go.ChangeAt Go.RowKit

theorem times_calls (x y z k : Int) (w : World) :
    Calls Tryz.prog 66 #[.agg #[.int .i64 x, .int .i64 y, .int .i64 z], .int .i64 k] w fun e w' => e = .returned (.agg #[.int .i64 (mul x k), .int .i64 (mul y k), .int .i64 (mul z k)]) ∧ Kept w w' := by
  have hmf : ∀ (fn : Fn) (first cap : Array Value) (w : World), (Instr.makeFunc fn first cap).run Tryz.prog w = .ok (.func fn first cap) w := fun _ _ _ _ => rfl
  go_enter Tryz.func66, Tryz.ntmps66
  go_wp2_with fail
  refine (each_calls 90 _ k (fun n => mul n k) (enters_of Tryz.func90 (by kernel_rfl) rfl) (fun n w' h => times1_calls _ k n w' h) x y z _ (by go_simp)).mono ?_
  rintro e w1 ⟨rfl, k1⟩
  have c0 : w1.cell? ⟨w.heap.size + 1 + 1, 0, none⟩ = some (.int .i64 0) := kept_cell k1 (by go_simp)
  have c1 : w1.cell? ⟨w.heap.size + 1 + 1, 1, none⟩ = some (.int .i64 0) := kept_cell k1 (by go_simp)
  have c2 : w1.cell? ⟨w.heap.size + 1 + 1, 2, none⟩ = some (.int .i64 0) := kept_cell k1 (by go_simp)
  have f0 : w1.frozen? ⟨w.heap.size + 1 + 1, 0, none⟩ = false := kept_frozen k1 (by go_simp)
  have f1 : w1.frozen? ⟨w.heap.size + 1 + 1, 1, none⟩ = false := kept_frozen k1 (by go_simp)
  have f2 : w1.frozen? ⟨w.heap.size + 1 + 1, 2, none⟩ = false := kept_frozen k1 (by go_simp)
  go_wp2
  obtain ⟨e0, e1, e2⟩ := set3_of (v0 := .int .i64 (mul x k)) (v1 := .int .i64 (mul y k)) (v2 := .int .i64 (mul z k)) c0 c1 c2
  exact bodyPost_ret (v := .agg #[.int .i64 (mul x k), .int .i64 (mul y k), .int .i64 (mul z k)]) (by simp [results, Tryz.results66, go_sem, e0, e1, e2]) rfl
    ⟨rfl, kept_set3 (((((Kept.refl w).alloc _ _).alloc _ _).alloc _ _).trans k1) (by omega) _ _ _⟩

theorem dot_calls (x y z x' y' z' : Int) (w : World) :
    Calls Tryz.prog 61 #[.agg #[.int .i64 x, .int .i64 y, .int .i64 z], .agg #[.int .i64 x', .int .i64 y', .int .i64 z']] w fun e w' => e = .returned (.int .i64 (dot x y z x' y' z')) ∧ Kept w w' := by
  go_enter Tryz.func61, Tryz.ntmps61
  go_wp2
  go_region_held3 (fun w' => Kept w w' ∧ w'.cell? ⟨w.heap.size, 0, none⟩ = some (.int .i64 x) ∧ w'.cell? ⟨w.heap.size, 1, none⟩ = some (.int .i64 y) ∧ w'.cell? ⟨w.heap.size, 2, none⟩ = some (.int .i64 z) ∧ w'.cell? ⟨w.heap.size + 1, 0, none⟩ = some (.int .i64 x') ∧ w'.cell? ⟨w.heap.size + 1, 1, none⟩ = some (.int .i64 y') ∧ w'.cell? ⟨w.heap.size + 1, 2, none⟩ = some (.int .i64 z'))
    (first | (refine Room33.step k ?_; assumption) | exact Room33.start ..)
    (first | (go_at_call 64; refine (mul_calls _ _ _).mono ?_; rintro e w' ⟨rfl, k⟩) | (go_at_call 28; refine (add_calls _ _ _).mono ?_; rintro e w' ⟨rfl, k⟩))
  rename_i hh
  have hk := hh.1
  clear hh
  go_wp2
  go_ret
  exact ⟨rfl, hk⟩
theorem long_calls (x y z : Int) (w : World) :
    Calls Tryz.prog 67 #[.agg #[.int .i64 x, .int .i64 y, .int .i64 z]] w fun e w' => e = .returned (.int .i64 (long x y z)) ∧ Kept w w' := by
  go_enter Tryz.func67, Tryz.ntmps67
  go_wp2_with fail
  refine (dot_calls _ _ _ _ _ _ _).mono ?_; rintro e w1 ⟨rfl, k1⟩
  go_wp2_with fail
  refine (root_calls _ _).mono ?_; rintro e w2 ⟨rfl, k2⟩
  go_wp2_with fail
  go_ret
  exact ⟨rfl, (((Kept.refl w).alloc _ _).trans k1).trans k2⟩
end Go.Proofs.YtbfkloclmlnahabGreat

namespace Go.Proofs.YtbfkloclmlnahabGreat
open Go.ChangeShapes Go.WideShapes Go.ChangeAt Go.RowKit

theorem unit_none (x y z : Int) (w : World) (h : long x y z = 0) :
    Calls Tryz.prog 68 #[.agg #[.int .i64 x, .int .i64 y, .int .i64 z]] w fun e w' => e = .returned (.agg #[.int .i64 0, .int .i64 65536, .int .i64 0]) ∧ Kept w w' := by
  have HH : Hid (long x y z = 0) := h
  clear h
  go_enter Tryz.func68, Tryz.ntmps68
  go_wp2_with fail
  refine (long_calls _ _ _ _).mono ?_; rintro e w1 ⟨rfl, k1⟩
  rw [HH.out]
  have hz : w.heap.size + 1 < w1.heap.size := by have := k1.below.size; simp at this; omega
  have c0 : w1.cell? ⟨w.heap.size + 1, 0, none⟩ = some (.int .i64 0) := kept_cell k1 (by go_simp)
  have c1 : w1.cell? ⟨w.heap.size + 1, 1, none⟩ = some (.int .i64 0) := kept_cell k1 (by go_simp)
  have c2 : w1.cell? ⟨w.heap.size + 1, 2, none⟩ = some (.int .i64 0) := kept_cell k1 (by go_simp)
  have f0 : w1.frozen? ⟨w.heap.size + 1, 0, none⟩ = false := kept_frozen k1 (by go_simp)
  have f1 : w1.frozen? ⟨w.heap.size + 1, 1, none⟩ = false := kept_frozen k1 (by go_simp)
  have f2 : w1.frozen? ⟨w.heap.size + 1, 2, none⟩ = false := kept_frozen k1 (by go_simp)
  have c0' := later c0; have c1' := later c1; have c2' := later c2
  have f0' := laterF f0; have f1' := laterF f1; have f2' := laterF f2
  go_wp2
  obtain ⟨e0, e1, e2⟩ := set3_of (v0 := .int .i64 0) (v1 := .int .i64 65536) (v2 := .int .i64 0) c0 c1 c2
  have g0 := later e0; have g1 := later e1; have g2 := later e2
  exact bodyPost_ret (v := .agg #[.int .i64 0, .int .i64 65536, .int .i64 0]) (by simp [results, Tryz.results68, go_sem, g0, g1, g2]) rfl
    ⟨rfl, (kept_set3 ((((Kept.refl w).alloc _ _).alloc _ _).trans k1) (by omega) _ _ _).alloc _ _⟩
theorem unit_some (x y z : Int) (w : World) (h : (long x y z == 0) = false) :
    Calls Tryz.prog 68 #[.agg #[.int .i64 x, .int .i64 y, .int .i64 z]] w fun e w' => e = .returned (.agg #[.int .i64 (div x (long x y z)), .int .i64 (div y (long x y z)), .int .i64 (div z (long x y z))]) ∧ Kept w w' := by
  have hmf : ∀ (fn : Fn) (first cap : Array Value) (w : World), (Instr.makeFunc fn first cap).run Tryz.prog w = .ok (.func fn first cap) w := fun _ _ _ _ => rfl
  go_enter Tryz.func68, Tryz.ntmps68
  go_wp2_with fail
  refine (long_calls _ _ _ _).mono ?_; rintro e w1 ⟨rfl, k1⟩
  have hz : w.heap.size + 1 < w1.heap.size := by have := k1.below.size; simp at this; omega
  have b0 := later (kept_cell k1 (a := ⟨w.heap.size, 0, none⟩) (v := .int .i64 x) (by go_simp))
  have b1 := later (kept_cell k1 (a := ⟨w.heap.size, 1, none⟩) (v := .int .i64 y) (by go_simp))
  have b2 := later (kept_cell k1 (a := ⟨w.heap.size, 2, none⟩) (v := .int .i64 z) (by go_simp))
  have c0 : w1.cell? ⟨w.heap.size + 1, 0, none⟩ = some (.int .i64 0) := kept_cell k1 (by go_simp)
  have c1 : w1.cell? ⟨w.heap.size + 1, 1, none⟩ = some (.int .i64 0) := kept_cell k1 (by go_simp)
  have c2 : w1.cell? ⟨w.heap.size + 1, 2, none⟩ = some (.int .i64 0) := kept_cell k1 (by go_simp)
  have f0 : w1.frozen? ⟨w.heap.size + 1, 0, none⟩ = false := kept_frozen k1 (by go_simp)
  have f1 : w1.frozen? ⟨w.heap.size + 1, 1, none⟩ = false := kept_frozen k1 (by go_simp)
  have f2 : w1.frozen? ⟨w.heap.size + 1, 2, none⟩ = false := kept_frozen k1 (by go_simp)
  go_wp2_with fail
  refine (each_calls 92 _ (long x y z) (fun n => div n (long x y z)) (enters_of Tryz.func92 (by kernel_rfl) rfl) (fun n w' h => unit1_calls _ _ n w' h) x y z _ (by go_simp)).mono ?_
  rintro e w2 ⟨rfl, k2⟩
  replace c0 := kept_cell k2 (later c0 _)
  replace c1 := kept_cell k2 (later c1 _)
  replace c2 := kept_cell k2 (later c2 _)
  replace f0 := kept_frozen k2 (laterF f0 _ _)
  replace f1 := kept_frozen k2 (laterF f1 _ _)
  replace f2 := kept_frozen k2 (laterF f2 _ _)
  clear b0 b1 b2
  go_wp2
  obtain ⟨e0, e1, e2⟩ := set3_of (v0 := .int .i64 (div x (long x y z))) (v1 := .int .i64 (div y (long x y z))) (v2 := .int .i64 (div z (long x y z))) c0 c1 c2
  exact bodyPost_ret (v := .agg #[.int .i64 (div x (long x y z)), .int .i64 (div y (long x y z)), .int .i64 (div z (long x y z))]) (by simp [results, Tryz.results68, go_sem, e0, e1, e2]) rfl
    ⟨rfl, kept_set3 ((((((Kept.refl w).alloc _ _).alloc _ _).trans k1).alloc _ _).trans k2) (by omega) _ _ _⟩
theorem within_calls (k : Int) (w : World) :
    Calls Tryz.prog 27 #[.int .i64 k] w fun e w' => ∃ p, e = .returned (.func (.func 44) #[] #[.pointer (some p)]) ∧ Kept w w' ∧ w'.cell? p = some (.int .i64 k) := by
  have hmf : ∀ (fn : Fn) (first cap : Array Value) (w : World), (Instr.makeFunc fn first cap).run Tryz.prog w = .ok (.func fn first cap) w := fun _ _ _ _ => rfl
  go_enter Tryz.func27, Tryz.ntmps27
  go_wp2
  go_ret
  exact ⟨_, rfl, (Kept.refl _).alloc _ _, by go_simp⟩
end Go.Proofs.YtbfkloclmlnahabGreat

namespace Go.Proofs.YtbfkloclmlnahabGreat
open Go.ChangeShapes Go.WideShapes Go.ChangeAt Go.RowKit

theorem clamp_neg (x y z k : Int) (w : World) (h : k < 0) :
    Calls Tryz.prog 12 #[.agg #[.int .i64 x, .int .i64 y, .int .i64 z], .int .i64 k] w fun e w' => e = .returned (.agg #[.int .i64 (cl 0 x), .int .i64 (cl 0 y), .int .i64 (cl 0 z)]) ∧ Kept w w' := by
  go_enter Tryz.func12, Tryz.ntmps12
  go_wp2
  go_region_held3 (fun w' => Kept w w' ∧ w'.cell? ⟨w.heap.size, 0, none⟩ = some (.int .i64 x) ∧ w'.cell? ⟨w.heap.size, 1, none⟩ = some (.int .i64 y) ∧ w'.cell? ⟨w.heap.size, 2, none⟩ = some (.int .i64 z) ∧ w'.cell? ⟨w.heap.size + 1, 0, none⟩ = some (cellV w' ⟨w.heap.size + 1, 0, none⟩) ∧ w'.cell? ⟨w.heap.size + 1, 1, none⟩ = some (cellV w' ⟨w.heap.size + 1, 1, none⟩) ∧ w'.cell? ⟨w.heap.size + 1, 2, none⟩ = some (cellV w' ⟨w.heap.size + 1, 2, none⟩) ∧ w'.frozen? ⟨w.heap.size + 1, 0, none⟩ = false ∧ w'.frozen? ⟨w.heap.size + 1, 1, none⟩ = false ∧ w'.frozen? ⟨w.heap.size + 1, 2, none⟩ = false)
    (first | (refine Room3o.step kk ?_; assumption) | exact Room3o.start .. | (refine Room3o.put 1 2 _ (by omega) (Room3o.put 1 1 _ (by omega) (Room3o.put 1 0 _ (by omega) ?_)); assumption))
    (first | (go_at_call 27; refine (within_calls _ _).mono ?_; rintro e w' ⟨p, rfl, kk, hpc⟩) | (go_at_call 26; refine (each_calls 44 p 0 (cl 0) (enters_of Tryz.func44 (by kernel_rfl) rfl) (fun n w' h => within1_calls p _ n w' (by omega) (by omega) h) x y z _ hpc).mono ?_; rintro e w' ⟨rfl, kk⟩))
  rename_i hh
  go_wp2
  obtain ⟨hk, _, _, _, c0, c1, c2, _⟩ := hh
  obtain ⟨e0, e1, e2⟩ := set3 c0 c1 c2
  clear c0 c1 c2
  exact bodyPost_ret (v := .agg #[.int .i64 (cl 0 x), .int .i64 (cl 0 y), .int .i64 (cl 0 z)]) (by simp [results, Tryz.results12, go_sem, e0, e1, e2]) rfl ⟨rfl, hk⟩
theorem clamp_pos (x y z k : Int) (w : World) (h : ¬ k < 0) (h' : k ≤ 9223372036854775807) :
    Calls Tryz.prog 12 #[.agg #[.int .i64 x, .int .i64 y, .int .i64 z], .int .i64 k] w fun e w' => e = .returned (.agg #[.int .i64 (cl k x), .int .i64 (cl k y), .int .i64 (cl k z)]) ∧ Kept w w' := by
  go_enter Tryz.func12, Tryz.ntmps12
  go_wp2
  go_region_held3 (fun w' => Kept w w' ∧ w'.cell? ⟨w.heap.size, 0, none⟩ = some (.int .i64 x) ∧ w'.cell? ⟨w.heap.size, 1, none⟩ = some (.int .i64 y) ∧ w'.cell? ⟨w.heap.size, 2, none⟩ = some (.int .i64 z) ∧ w'.cell? ⟨w.heap.size + 1, 0, none⟩ = some (cellV w' ⟨w.heap.size + 1, 0, none⟩) ∧ w'.cell? ⟨w.heap.size + 1, 1, none⟩ = some (cellV w' ⟨w.heap.size + 1, 1, none⟩) ∧ w'.cell? ⟨w.heap.size + 1, 2, none⟩ = some (cellV w' ⟨w.heap.size + 1, 2, none⟩) ∧ w'.frozen? ⟨w.heap.size + 1, 0, none⟩ = false ∧ w'.frozen? ⟨w.heap.size + 1, 1, none⟩ = false ∧ w'.frozen? ⟨w.heap.size + 1, 2, none⟩ = false)
    (first | (refine Room3o.step kk ?_; assumption) | exact Room3o.start .. | (refine Room3o.put 1 2 _ (by omega) (Room3o.put 1 1 _ (by omega) (Room3o.put 1 0 _ (by omega) ?_)); assumption))
    (first | (go_at_call 27; refine (within_calls _ _).mono ?_; rintro e w' ⟨p, rfl, kk, hpc⟩) | (go_at_call 26; refine (each_calls 44 p k (cl k) (enters_of Tryz.func44 (by kernel_rfl) rfl) (fun n w' h => within1_calls p _ n w' (by omega) (by omega) h) x y z _ hpc).mono ?_; rintro e w' ⟨rfl, kk⟩))
  rename_i hh
  go_wp2
  obtain ⟨hk, _, _, _, c0, c1, c2, _⟩ := hh
  obtain ⟨e0, e1, e2⟩ := set3 c0 c1 c2
  clear c0 c1 c2
  exact bodyPost_ret (v := .agg #[.int .i64 (cl k x), .int .i64 (cl k y), .int .i64 (cl k z)]) (by simp [results, Tryz.results12, go_sem, e0, e1, e2]) rfl ⟨rfl, hk⟩
end Go.Proofs.YtbfkloclmlnahabGreat

namespace Go.Proofs.YtbfkloclmlnahabGreat
open Go.ChangeShapes Go.WideShapes Go.ChangeAt Go.RowKit

def unitPart (l d n : Int) : Int := if l = 0 then d else div n l
theorem unit_calls (x y z : Int) (w : World) :
    Calls Tryz.prog 68 #[.agg #[.int .i64 x, .int .i64 y, .int .i64 z]] w fun e w' => e = .returned (.agg #[.int .i64 (unitPart (long x y z) 0 x), .int .i64 (unitPart (long x y z) 65536 y), .int .i64 (unitPart (long x y z) 0 z)]) ∧ Kept w w' := by
  unfold unitPart
  by_cases h : long x y z = 0
  · rw [if_pos h, if_pos h, if_pos h]; exact unit_none x y z w h
  · rw [if_neg h, if_neg h, if_neg h]; exact unit_some x y z w (by simpa using h)
theorem clamp_calls (x y z k : Int) (w : World) (h' : k ≤ 9223372036854775807) :
    Calls Tryz.prog 12 #[.agg #[.int .i64 x, .int .i64 y, .int .i64 z], .int .i64 k] w fun e w' => e = .returned (.agg #[.int .i64 (cl (bound k) x), .int .i64 (cl (bound k) y), .int .i64 (cl (bound k) z)]) ∧ Kept w w' := by
  unfold bound
  by_cases h : k < 0
  · rw [if_pos h]; exact clamp_neg x y z k w h
  · rw [if_neg h]; exact clamp_pos x y z k w h h'
end Go.Proofs.YtbfkloclmlnahabGreat

namespace Go.Proofs.YtbfkloclmlnahabGreat
open Go.ChangeShapes Go.WideShapes Go.ChangeAt Go.RowKit
set_option linter.unusedVariables false
set_option linter.unusedSimpArgs false

/-- A box, a node of the tree: what their cells hold. -/
structure Bx where
  x0 : Int
  x1 : Int
  x2 : Int
  x3 : Int
  x4 : Int
  x5 : Int
structure Nd where
  id : Int
  box : Bx
  room : Bx
  high : Int
  up : Option Nat
  l : Option Nat
  r : Option Nat
def bx0 : Bx := ⟨0, 0, 0, 0, 0, 0⟩
def ptr : Option Nat → Value
  | none => .pointer none
  | some b => .pointer (some ⟨b, 0, none⟩)
@[simp] theorem ptr_none : ptr none = .pointer none := rfl
@[simp] theorem ptr_some (b : Nat) : ptr (some b) = .pointer (some ⟨b, 0, none⟩) := rfl
def Nd.cells (n : Nd) : Array Value := #[.int .i64 (n.id), .int .i64 (n.box.x0), .int .i64 (n.box.x1), .int .i64 (n.box.x2), .int .i64 (n.box.x3), .int .i64 (n.box.x4), .int .i64 (n.box.x5), .int .i64 (n.room.x0), .int .i64 (n.room.x1), .int .i64 (n.room.x2), .int .i64 (n.room.x3), .int .i64 (n.room.x4), .int .i64 (n.room.x5), .int .i64 (n.high), ptr n.up, ptr n.l, ptr n.r]
def NodeAt (w : World) (b : Nat) (n : Nd) : Prop := w.heap[b]? = some (.cells n.cells 99)
def TreeAt (w : World) (t : Nat) (fat : Int) (root lv : Option Nat) : Prop := w.heap[t]? = some (.cells #[.int .i64 fat, ptr root, .map lv] 94)

theorem NodeAt.lt {w : World} {b : Nat} {n : Nd} (h : NodeAt w b n) : b < w.heap.size := (Array.getElem?_eq_some_iff.1 h).1
theorem TreeAt.lt {w : World} {b : Nat} {f : Int} {r l : Option Nat} (h : TreeAt w b f r l) : b < w.heap.size := (Array.getElem?_eq_some_iff.1 h).1
theorem NodeAt.off {w : World} {b : Nat} {n : Nd} (h : NodeAt w b n) (i : Nat) : w.cell? ⟨b, i, none⟩ = n.cells[i]? := by
  unfold NodeAt at h; simp [World.cell?, h]
theorem NodeAt.free {w : World} {b : Nat} {n : Nd} (h : NodeAt w b n) (i : Nat) : w.frozen? ⟨b, i, none⟩ = false := by
  unfold NodeAt at h; simp [World.frozen?, h]
theorem NodeAt.c0 {w : World} {b : Nat} {n : Nd} (h : NodeAt w b n) : w.cell? ⟨b, 0, none⟩ = some (.int .i64 (n.id)) := h.off 0
theorem NodeAt.c1 {w : World} {b : Nat} {n : Nd} (h : NodeAt w b n) : w.cell? ⟨b, 1, none⟩ = some (.int .i64 (n.box.x0)) := h.off 1
theorem NodeAt.c2 {w : World} {b : Nat} {n : Nd} (h : NodeAt w b n) : w.cell? ⟨b, 2, none⟩ = some (.int .i64 (n.box.x1)) := h.off 2
theorem NodeAt.c3 {w : World} {b : Nat} {n : Nd} (h : NodeAt w b n) : w.cell? ⟨b, 3, none⟩ = some (.int .i64 (n.box.x2)) := h.off 3
theorem NodeAt.c4 {w : World} {b : Nat} {n : Nd} (h : NodeAt w b n) : w.cell? ⟨b, 4, none⟩ = some (.int .i64 (n.box.x3)) := h.off 4
theorem NodeAt.c5 {w : World} {b : Nat} {n : Nd} (h : NodeAt w b n) : w.cell? ⟨b, 5, none⟩ = some (.int .i64 (n.box.x4)) := h.off 5
theorem NodeAt.c6 {w : World} {b : Nat} {n : Nd} (h : NodeAt w b n) : w.cell? ⟨b, 6, none⟩ = some (.int .i64 (n.box.x5)) := h.off 6
theorem NodeAt.c7 {w : World} {b : Nat} {n : Nd} (h : NodeAt w b n) : w.cell? ⟨b, 7, none⟩ = some (.int .i64 (n.room.x0)) := h.off 7
theorem NodeAt.c8 {w : World} {b : Nat} {n : Nd} (h : NodeAt w b n) : w.cell? ⟨b, 8, none⟩ = some (.int .i64 (n.room.x1)) := h.off 8
theorem NodeAt.c9 {w : World} {b : Nat} {n : Nd} (h : NodeAt w b n) : w.cell? ⟨b, 9, none⟩ = some (.int .i64 (n.room.x2)) := h.off 9
theorem NodeAt.c10 {w : World} {b : Nat} {n : Nd} (h : NodeAt w b n) : w.cell? ⟨b, 10, none⟩ = some (.int .i64 (n.room.x3)) := h.off 10
theorem NodeAt.c11 {w : World} {b : Nat} {n : Nd} (h : NodeAt w b n) : w.cell? ⟨b, 11, none⟩ = some (.int .i64 (n.room.x4)) := h.off 11
theorem NodeAt.c12 {w : World} {b : Nat} {n : Nd} (h : NodeAt w b n) : w.cell? ⟨b, 12, none⟩ = some (.int .i64 (n.room.x5)) := h.off 12
theorem NodeAt.c13 {w : World} {b : Nat} {n : Nd} (h : NodeAt w b n) : w.cell? ⟨b, 13, none⟩ = some (.int .i64 (n.high)) := h.off 13
theorem NodeAt.c14 {w : World} {b : Nat} {n : Nd} (h : NodeAt w b n) : w.cell? ⟨b, 14, none⟩ = some (ptr n.up) := h.off 14
theorem NodeAt.c15 {w : World} {b : Nat} {n : Nd} (h : NodeAt w b n) : w.cell? ⟨b, 15, none⟩ = some (ptr n.l) := h.off 15
theorem NodeAt.c16 {w : World} {b : Nat} {n : Nd} (h : NodeAt w b n) : w.cell? ⟨b, 16, none⟩ = some (ptr n.r) := h.off 16
theorem TreeAt.c0 {w : World} {b : Nat} {f : Int} {r l : Option Nat} (h : TreeAt w b f r l) : w.cell? ⟨b, 0, none⟩ = some (.int .i64 f) := by unfold TreeAt at h; simp [World.cell?, h]
theorem TreeAt.c1 {w : World} {b : Nat} {f : Int} {r l : Option Nat} (h : TreeAt w b f r l) : w.cell? ⟨b, 1, none⟩ = some (ptr r) := by unfold TreeAt at h; simp [World.cell?, h]
theorem TreeAt.c2 {w : World} {b : Nat} {f : Int} {r l : Option Nat} (h : TreeAt w b f r l) : w.cell? ⟨b, 2, none⟩ = some (.map l) := by unfold TreeAt at h; simp [World.cell?, h]
theorem TreeAt.free {w : World} {b : Nat} {f : Int} {r l : Option Nat} (h : TreeAt w b f r l) (i : Nat) : w.frozen? ⟨b, i, none⟩ = false := by unfold TreeAt at h; simp [World.frozen?, h]

/-- A store into one cell of a block. -/
theorem heap_put {w : World} {b : Nat} {c : Array Value} {t : TypeId} (h : w.heap[b]? = some (.cells c t)) (i : Nat) (v : Value) : (w.setCell ⟨b, i, none⟩ v).heap[b]? = some (.cells (c.setIfInBounds i v) t) := by
  simp only [World.setCell, Array.getElem?_modify, if_true, h, Option.map_some]; rfl
theorem NodeAt.putHigh {w : World} {b : Nat} {n : Nd} (h : NodeAt w b n) (k : Int) : NodeAt (w.setCell ⟨b, 13, none⟩ (.int .i64 k)) b { n with high := k } := heap_put h _ _
theorem NodeAt.putUp {w : World} {b : Nat} {n : Nd} (h : NodeAt w b n) (k : Option Nat) : NodeAt (w.setCell ⟨b, 14, none⟩ (ptr k)) b { n with up := k } := heap_put h _ _
theorem NodeAt.putL {w : World} {b : Nat} {n : Nd} (h : NodeAt w b n) (k : Option Nat) : NodeAt (w.setCell ⟨b, 15, none⟩ (ptr k)) b { n with l := k } := heap_put h _ _
theorem NodeAt.putR {w : World} {b : Nat} {n : Nd} (h : NodeAt w b n) (k : Option Nat) : NodeAt (w.setCell ⟨b, 16, none⟩ (ptr k)) b { n with r := k } := heap_put h _ _
theorem NodeAt.putRoom {w : World} {b : Nat} {n : Nd} (h : NodeAt w b n) (k : Bx) : NodeAt ((((((w.setCell ⟨b, 7, none⟩ (.int .i64 (k.x0))).setCell ⟨b, 8, none⟩ (.int .i64 (k.x1))).setCell ⟨b, 9, none⟩ (.int .i64 (k.x2))).setCell ⟨b, 10, none⟩ (.int .i64 (k.x3))).setCell ⟨b, 11, none⟩ (.int .i64 (k.x4))).setCell ⟨b, 12, none⟩ (.int .i64 (k.x5))) b { n with room := k } :=
  heap_put (heap_put (heap_put (heap_put (heap_put (heap_put h _ _) _ _) _ _) _ _) _ _) _ _
theorem NodeAt.putBox {w : World} {b : Nat} {n : Nd} (h : NodeAt w b n) (k : Bx) : NodeAt ((((((w.setCell ⟨b, 1, none⟩ (.int .i64 (k.x0))).setCell ⟨b, 2, none⟩ (.int .i64 (k.x1))).setCell ⟨b, 3, none⟩ (.int .i64 (k.x2))).setCell ⟨b, 4, none⟩ (.int .i64 (k.x3))).setCell ⟨b, 5, none⟩ (.int .i64 (k.x4))).setCell ⟨b, 6, none⟩ (.int .i64 (k.x5))) b { n with box := k } :=
  heap_put (heap_put (heap_put (heap_put (heap_put (heap_put h _ _) _ _) _ _) _ _) _ _) _ _
theorem TreeAt.putRoot {w : World} {b : Nat} {f : Int} {r l : Option Nat} (h : TreeAt w b f r l) (k : Option Nat) : TreeAt (w.setCell ⟨b, 1, none⟩ (ptr k)) b f k l := heap_put h _ _
theorem TreeAt.putMap {w : World} {b : Nat} {f : Int} {r l : Option Nat} (h : TreeAt w b f r l) (k : Option Nat) : TreeAt (w.setCell ⟨b, 2, none⟩ (.map k)) b f r k := heap_put h _ _

/-- Of the blocks that were there those of D alone may have turned. -/
structure Only (D : List Nat) (w w' : World) : Prop where
  os : w'.os = w.os
  tape : w'.tape = w.tape
  output : w'.output = w.output
  size : w.heap.size ≤ w'.heap.size
  block : ∀ b, b < w.heap.size → b ∉ D → w'.heap[b]? = w.heap[b]?
theorem Only.refl (D : List Nat) (w : World) : Only D w w := ⟨rfl, rfl, rfl, Nat.le_refl _, fun _ _ _ => rfl⟩
theorem Only.mono {D E : List Nat} {w w' : World} (h : Only D w w') (s : ∀ b ∈ D, b ∈ E ∨ w.heap.size ≤ b) : Only E w w' :=
  ⟨h.os, h.tape, h.output, h.size, fun b hb hE => h.block b hb (fun hD => by rcases s b hD with k | k; exact hE k; omega)⟩
theorem Only.trans {D : List Nat} {a b c : World} (h : Only D a b) (k : Only D b c) : Only D a c :=
  ⟨k.os.trans h.os, k.tape.trans h.tape, k.output.trans h.output, Nat.le_trans h.size k.size, fun i hi hD => (k.block i (Nat.lt_of_lt_of_le hi h.size) hD).trans (h.block i hi hD)⟩
/-- .. the second step may turn blocks that the first one has made. -/
theorem Only.then {D E : List Nat} {a b c : World} (h : Only D a b) (k : Only E b c) (s : ∀ x ∈ E, x ∈ D ∨ a.heap.size ≤ x) : Only D a c :=
  ⟨k.os.trans h.os, k.tape.trans h.tape, k.output.trans h.output, Nat.le_trans h.size k.size, fun i hi hD => (k.block i (Nat.lt_of_lt_of_le hi h.size) (fun hE => by rcases s i hE with q | q; exact hD q; omega)).trans (h.block i hi hD)⟩
theorem Only.of_kept {D : List Nat} {w w' : World} (k : Kept w w') : Only D w w' :=
  ⟨k.below.os, k.below.tape, k.below.output, k.below.size, fun b hb _ => k.below.block b hb⟩
theorem Only.drew {D : List Nat} {a w : World} (h : Only D a w) : Only D a w.drew := ⟨h.os, h.tape, h.output, h.size, h.block⟩
theorem Only.setCell {D : List Nat} {a w : World} (h : Only D a w) {p : Addr} (hp : p.block ∈ D ∨ a.heap.size ≤ p.block) (v : Value) : Only D a (w.setCell p v) :=
  ⟨h.os, h.tape, h.output, by simpa [World.setCell] using h.size, fun b hb hD => by
    rw [Below.heap_setCell _ _ _ _ (fun e => by rcases hp with q | q; exact hD (e ▸ q); omega)]; exact h.block b hb hD⟩
theorem Only.alloc {D : List Nat} {a w : World} (h : Only D a w) (o : Obj) : Only D a (w.alloc o) :=
  ⟨h.os, h.tape, h.output, Nat.le_trans h.size (by simp), fun b hb hD => by rw [Below.heap_alloc _ _ _ (Nat.lt_of_lt_of_le hb h.size)]; exact h.block b hb hD⟩
theorem Only.grown {D : List Nat} {a w w' : World} {row : Option Nat} (h : Only D a w) (g : w.grownBy w' row) (s : ∀ k, row = some k → k ∈ D ∨ a.heap.size ≤ k) : Only D a w' :=
  ⟨g.os.trans h.os, g.tape.trans h.tape, g.output.trans h.output, Nat.le_trans h.size g.size, fun b hb hD => (g.block b (Nat.lt_of_lt_of_le hb h.size) (fun e => by rcases s b e.symm with q | q; exact hD q; omega)).trans (h.block b hb hD)⟩
theorem Only.below {D : List Nat} {w w' : World} (h : Only D w w') {B : Nat} (s : ∀ b ∈ D, B ≤ b) (hB : B ≤ w.heap.size) : Below B w w' :=
  ⟨h.os, h.tape, h.output, h.size, fun k hk => h.block k (by omega) (fun hD => by have := s k hD; omega)⟩
theorem Only.node {D : List Nat} {w w' : World} (h : Only D w w') {b : Nat} (s : b ∉ D) {n : Nd} (k : NodeAt w b n) : NodeAt w' b n := (h.block b k.lt s).trans k
theorem Only.tree {D : List Nat} {w w' : World} (h : Only D w w') {b : Nat} (s : b ∉ D) {f : Int} {r l : Option Nat} (k : TreeAt w b f r l) : TreeAt w' b f r l := (h.block b k.lt s).trans k
theorem NodeAt.kept {w w' : World} {b : Nat} {n : Nd} (h : NodeAt w b n) (k : Kept w w') : NodeAt w' b n := (k.below.block b h.lt).trans h
theorem NodeAt.far {w : World} {b : Nat} {n : Nd} (h : NodeAt w b n) {p : Addr} (hp : b ≠ p.block) (v : Value) : NodeAt (w.setCell p v) b n := (Below.heap_setCell _ _ _ _ hp).trans h
theorem TreeAt.far {w : World} {b : Nat} {f : Int} {r l : Option Nat} (h : TreeAt w b f r l) {p : Addr} (hp : b ≠ p.block) (v : Value) : TreeAt (w.setCell p v) b f r l := (Below.heap_setCell _ _ _ _ hp).trans h
theorem Only.drewN {D : List Nat} (w : World) (k : Nat) : Only D w (w.drewN k) := ⟨rfl, rfl, rfl, Nat.le_refl _, fun _ _ _ => rfl⟩
end Go.Proofs.YtbfkloclmlnahabGreat

namespace Go.Proofs.YtbfkloclmlnahabGreat
open Go.ChangeShapes Go.WideShapes Go.ChangeAt Go.RowKit
set_option linter.unusedVariables false
set_option linter.unusedSimpArgs false

/-- Whether a vector has a part that is further from 0 than most. -/
def beyX (m x y z : Int) : Bool := !decide (cl m x = x ∧ cl m y = y ∧ cl m z = z)
def upX (n m : Int) : Bool := decide (0 ≤ n ∧ n ≤ m)
def BeyR (w : World) (b0 : Nat) (v0 v1 v2 : Value) (w' : World) : Prop :=
  Kept w w' ∧
  w'.cell? ⟨b0, 0, none⟩ = some v0 ∧
  w'.cell? ⟨b0, 1, none⟩ = some v1 ∧
  w'.cell? ⟨b0, 2, none⟩ = some v2
theorem BeyR.step {w w1 w2 : World} {b0 : Nat} {v0 v1 v2 : Value} (k : Kept w1 w2) (h : BeyR w b0 v0 v1 v2 w1) : BeyR w b0 v0 v1 v2 w2 := by
  obtain ⟨h0, h1, h2, h3⟩ := h
  exact ⟨h0.trans k, kept_cell k h1, kept_cell k h2, kept_cell k h3⟩
def BeyRAt (b0 : Nat) (v0 v1 v2 : Value) (w' : World) : Prop :=
  w'.cell? ⟨b0, 0, none⟩ = some v0 ∧
  w'.cell? ⟨b0, 1, none⟩ = some v1 ∧
  w'.cell? ⟨b0, 2, none⟩ = some v2
theorem BeyRAt.step {w1 w2 : World} {b0 : Nat} {v0 v1 v2 : Value} (k : Kept w1 w2) (h : BeyRAt b0 v0 v1 v2 w1) : BeyRAt b0 v0 v1 v2 w2 := by
  obtain ⟨h1, h2, h3⟩ := h
  exact ⟨kept_cell k h1, kept_cell k h2, kept_cell k h3⟩
theorem BeyRAt.start {w1 : World} {b0 : Nat} {v0 v1 v2 : Value} (h : BeyRAt b0 v0 v1 v2 w1) : BeyR w1 b0 v0 v1 v2 w1.drew := ⟨(Kept.refl _).drew, h.step (Kept.refl _).drew⟩

theorem neq_vec {ρ : Operand → Value} {op : Oper} {w : World} {j k : Nat} {x y z x' y' z' : Int} (ho : op.op = .binOp .neq 24 (.tmp j) (.tmp k) 24) (hj : ρ (.tmp j) = .agg #[.int .i64 x, .int .i64 y, .int .i64 z]) (hk : ρ (.tmp k) = .agg #[.int .i64 x', .int .i64 y', .int .i64 z']) : (execOp ρ op).run Tryz.prog w = .ok (.value (.bool (!decide (x = x' ∧ y = y' ∧ z = z')))) w := by
  simp only [execOp, ho, hj, hk]
  by_cases h1 : x = x'
  · subst h1
    by_cases h2 : y = y'
    · subst h2
      by_cases h3 : z = z'
      · subst h3
        go_simp <;> simp
      · have : (z == z') = false := by simpa using h3
        go_simp <;> simp [h3]
    · have : (y == y') = false := by simpa using h2
      go_simp <;> simp [h2]
  · have : (x == x') = false := by simpa using h1
    go_simp <;> simp [h1]
theorem beyond_calls (x y z m : Int) (w : World) (h : 0 ≤ m) (h' : m ≤ 9223372036854775807) : Calls Tryz.prog 31 #[.agg #[.int .i64 x, .int .i64 y, .int .i64 z], .int .i64 m] w fun e w' => e = .returned (.bool (beyX m x y z)) ∧ Kept w w' := by
  have HM : Hid (bound m = m ∧ m ≤ 9223372036854775807) := ⟨by unfold bound; rw [if_neg (by omega)], h'⟩
  have HB : Hid (beyX m x y z = !decide (cl m x = x ∧ cl m y = y ∧ cl m z = z)) := rfl
  clear h h'
  go_enter Tryz.func31, Tryz.ntmps31
  go_upto_region 1 with fail
  have H1 : Hid (BeyRAt w.heap.size (.int .i64 x) (.int .i64 y) (.int .i64 z) (w.alloc (.cells #[.int .i64 x, .int .i64 y, .int .i64 z] 24)) ∧ Kept w (w.alloc (.cells #[.int .i64 x, .int .i64 y, .int .i64 z] 24))) := by
    refine ⟨⟨?_, ?_, ?_⟩, (Kept.refl w).alloc _ _⟩ <;> go_simp
  revert H1
  generalize w.heap.size = kb
  generalize World.alloc w _ = w1
  intro H1
  refine wp_region_held_drew (S := (fun w' => Kept w1 w' ∧ w'.cell? ⟨kb, 0, none⟩ = some (.int .i64 x) ∧ w'.cell? ⟨kb, 1, none⟩ = some (.int .i64 y) ∧ w'.cell? ⟨kb, 2, none⟩ = some (.int .i64 z))) (by kernel_rfl) ?_ (fun hHeld1 => ?_)
  · (try dsimp only); exact BeyRAt.start H1.out.1
  refine wpAnyH_take (i := 0) (v := ?_) rfl (by kernel_rfl) (by kernel_rfl) (by kernel_rfl) (fun _ _ _ h => h) (Or.inl ⟨by kernel_rfl, ?_⟩) (by assumption) ?_
  rotate_left
  · intro w'' hSw; (try dsimp only at hSw); simp only [zqa, zqb, zqc]; (go_simp <;> with_reducible rfl)
  try simp only [Act.put, zqd, zqe, zqf, zqa, zqb, zqc]
  refine wpAnyH_take (i := 1) (v := ?_) rfl (by kernel_rfl) (by kernel_rfl) (by kernel_rfl) (fun _ _ _ h => h) (Or.inl ⟨by kernel_rfl, ?_⟩) (by assumption) ?_
  rotate_left
  · intro w'' hSw; (try dsimp only at hSw); simp only [zqa, zqb, zqc]; (go_simp <;> with_reducible rfl)
  try simp only [Act.put, zqd, zqe, zqf, zqa, zqb, zqc]
  refine wpAnyH_take (i := 3) (v := ?_) rfl (by kernel_rfl) (by kernel_rfl) (by kernel_rfl) (fun _ _ _ h => h) (Or.inl ⟨by kernel_rfl, ?_⟩) (by assumption) ?_
  rotate_left
  · intro w'' hSw; (try dsimp only at hSw); simp only [zqa, zqb, zqc]; (go_simp <;> with_reducible rfl)
  try simp only [Act.put, zqd, zqe, zqf, zqa, zqb, zqc]
  refine wpAnyH_ready (rs := [2]) (by kernel_rfl) (by simp) ?_
  refine AllReadyH.cons rfl (fun K hK => ?_) AllReadyH.nil
  first | (with_reducible refine iteYes ?hcx ?htx; case hcx => kernel_rfl) | rw [if_pos (by rfl)]
  simp only [zqa, zqb, zqc]
  go_simp
  (go_at_call 12; refine (clamp_calls _ _ _ _ _ HM.out.2).mono ?_; rintro e w2 ⟨rfl, k2⟩; rw [HM.out.1])
  try go_wp2_with fail
  refine hK.out _ _ ?_ (fun hHeld2 => ?_)
  · (try dsimp only); exact BeyR.step k2 hHeld1
  clear hK K hHeld1
  try simp only [Act.put, zqd, zqe, zqf, zqa, zqb, zqc]
  refine wpAnyH_take (i := 4) (v := .bool (beyX m x y z)) rfl (by kernel_rfl) (by kernel_rfl) (by kernel_rfl) (fun _ _ _ h => h) (Or.inl ⟨by kernel_rfl, ?_⟩) (by assumption) ?_
  · intro w'' hSw; (try dsimp only at hSw); simp only [zqa, zqb, zqc]; exact (by rw [HB.out]; exact neq_vec (j := 7) (k := 8) rfl (by kernel_rfl) (by kernel_rfl))
  try simp only [Act.put, zqd, zqe, zqf, zqa, zqb, zqc]
  refine wpAnyH_take (i := 5) (v := ?_) rfl (by kernel_rfl) (by kernel_rfl) (by kernel_rfl) (fun _ _ _ h => h) (Or.inl ⟨by kernel_rfl, ?_⟩) (by assumption) ?_
  rotate_left
  · intro w'' hSw; (try dsimp only at hSw); simp only [zqa, zqb, zqc]; (go_simp <;> with_reducible rfl)
  try simp only [Act.put, zqd, zqe, zqf, zqa, zqb, zqc]
  refine wpAnyH_done (by kernel_rfl) ?_ _
  go_wp2_with fail
  go_ret
  exact ⟨rfl, H1.out.2.trans hHeld2.1⟩
theorem upTo_calls (n m : Int) (w : World) : Calls Tryz.prog 32 #[.int .i64 n, .int .i64 m] w fun e w' => e = .returned (.bool (upX n m)) ∧ w' = w := by
  unfold upX
  go_enter Tryz.func32, Tryz.ntmps32
  by_cases h : 0 ≤ n
  · have h1 : decide (0 ≤ n) = true := by simpa using h
    go_wp2_with fail
    go_ret
    exact ⟨by simp [h], rfl⟩
  · have h1 : decide (0 ≤ n) = false := by simpa using h
    go_wp2_with fail
    go_ret
    exact ⟨by simp [h], rfl⟩
end Go.Proofs.YtbfkloclmlnahabGreat

namespace Go.Proofs.YtbfkloclmlnahabGreat
open Go.ChangeShapes Go.WideShapes Go.ChangeAt Go.RowKit
set_option linter.unusedVariables false
set_option linter.unusedSimpArgs false

structure Bd where
  (id ow kd sx sy sz ax ay az vx vy vz px py pz ms tm : Int)
def bd0 : Bd := ⟨0, 0, 0, 0, 0, 0, 0, 0, 0, 0, 0, 0, 0, 0, 0, 0, 0⟩
def bdV (b : Bd) : Value := .agg #[.int .i64 (b.id), .int .i64 (b.ow), .int .i64 (b.kd), .int .i64 (b.sx), .int .i64 (b.sy), .int .i64 (b.sz), .int .i64 (b.ax), .int .i64 (b.ay), .int .i64 (b.az), .int .i64 (b.vx), .int .i64 (b.vy), .int .i64 (b.vz), .int .i64 (b.px), .int .i64 (b.py), .int .i64 (b.pz), .int .i64 (b.ms), .int .i64 (b.tm)]
/-- A body's cells, one by one. -/
def bc (b : Bd) : Nat → Value
  | 0 => .int .i64 (b.id)
  | 1 => .int .i64 (b.ow)
  | 2 => .int .i64 (b.kd)
  | 3 => .int .i64 (b.sx)
  | 4 => .int .i64 (b.sy)
  | 5 => .int .i64 (b.sz)
  | 6 => .int .i64 (b.ax)
  | 7 => .int .i64 (b.ay)
  | 8 => .int .i64 (b.az)
  | 9 => .int .i64 (b.vx)
  | 10 => .int .i64 (b.vy)
  | 11 => .int .i64 (b.vz)
  | 12 => .int .i64 (b.px)
  | 13 => .int .i64 (b.py)
  | 14 => .int .i64 (b.pz)
  | 15 => .int .i64 (b.ms)
  | _ => .int .i64 (b.tm)
/-- The bodies of a slice. -/
def BodiesAt (w : World) (a : Option Addr) (n : Nat) (B : Nat → Bd) : Prop := ∀ j, j < n → ∃ g o, a = some ⟨g, o, none⟩ ∧ ∀ k, k < 17 → w.cell? ⟨g, o + j * 17 + k, none⟩ = some (bc (B j) k)
theorem cell_only {D : List Nat} {w w' : World} (o : Only D w w') {a : Addr} {v : Value} (h : w.cell? a = some v) (s : a.block ∉ D) : w'.cell? a = some v := by
  rw [World.cell?_of_block (w := w) (o.block a.block (World.block_lt_of_cell? w a h) s)]; exact h
theorem cell_old1 {w w' : World} (o : Only [] w w') {a : Addr} {v : Value} (h : w.cell? a = some v) : w'.cell? a = some v := cell_only o h (by simp)
theorem BodiesAt.only {w w' : World} {a : Option Addr} {n : Nat} {B : Nat → Bd} (h : BodiesAt w a n B) (o : Only [] w w') : BodiesAt w' a n B := by
  intro j hj
  obtain ⟨g, f, e, hc⟩ := h j hj
  exact ⟨g, f, e, fun k hk => cell_old1 o (hc k hk)⟩
/-- No two have one number. -/
def Alone (n : Nat) (B : Nat → Bd) : Prop := ∀ i k, i < n → k < n → (B i).id = (B k).id → i = k
end Go.Proofs.YtbfkloclmlnahabGreat

namespace Go.Proofs.YtbfkloclmlnahabGreat
open Go.ChangeShapes Go.WideShapes Go.ChangeAt Go.RowKit
set_option linter.unusedVariables false
set_option linter.unusedSimpArgs false

/-- Where the body of a number lies among the first n. -/
def findX (B : Nat → Bd) (id : Int) : Nat → Option Nat
  | 0 => none
  | n + 1 => match findX B id n with
    | some i => some i
    | none => if (B n).id = id then some n else none
theorem findX_some {B : Nat → Bd} {id : Int} : ∀ {n i : Nat}, findX B id n = some i → i < n ∧ (B i).id = id
  | 0, i, h => by simp [findX] at h
  | n + 1, i, h => by
    simp only [findX] at h
    split at h
    · rename_i j hj
      injection h with h; subst h
      have := findX_some hj
      exact ⟨by omega, this.2⟩
    · split at h
      · rename_i e
        injection h with h; subst h
        exact ⟨by omega, e⟩
      · cases h
theorem findX_none {B : Nat → Bd} {id : Int} : ∀ {n : Nat}, findX B id n = none → ∀ i, i < n → (B i).id ≠ id
  | 0, _, i, hi => by omega
  | n + 1, h, i, hi => by
    simp only [findX] at h
    split at h
    · cases h
    · rename_i hn
      split at h
      · cases h
      · rename_i e
        by_cases q : i = n
        · subst q; exact e
        · exact findX_none hn i (by omega)
theorem findX_least {B : Nat → Bd} {id : Int} : ∀ {n i : Nat}, i < n → (B i).id = id → (∀ x, x < i → (B x).id ≠ id) → findX B id n = some i
  | 0, i, h, _, _ => by omega
  | n + 1, i, h, e, l => by
    simp only [findX]
    by_cases q : i = n
    · subst q
      cases hf : findX B id i with
      | some k => have := findX_some hf; exact absurd this.2 (l k this.1)
      | none => simp [e]
    · rw [findX_least (by omega) e l]
theorem findX_congr {B C : Nat → Bd} {id : Int} (h : ∀ i, (B i).id = (C i).id) : ∀ n, findX B id n = findX C id n
  | 0 => rfl
  | n + 1 => by simp only [findX, findX_congr h n, h n]
def lightX (m : Int) : Int := if m ≤ 0 then 0 else div 65536 m
structure V3 where
  (x y z : Int)
structure Tc where
  (a b : Int) (way : V3) (deep : Int)
def upd (B : Nat → Bd) (i : Nat) (b : Bd) : Nat → Bd := fun j => if j = i then b else B j
def atX (b : Bd) (x y z : Int) : Bd := { b with ax := x, ay := y, az := z }
def spX (b : Bd) (x y z : Int) : Bd := { b with vx := x, vy := y, vz := z }
/-- One moved back by much along a way, and kept within the world. -/
def backX (b : Bd) (w : V3) (m : Int) : Bd := atX b (cl 65536000 (sub b.ax (mul w.x m))) (cl 65536000 (sub b.ay (mul w.y m))) (cl 65536000 (sub b.az (mul w.z m)))
def forthX (b : Bd) (w : V3) (m : Int) : Bd := atX b (cl 65536000 (add b.ax (mul w.x m))) (cl 65536000 (add b.ay (mul w.y m))) (cl 65536000 (add b.az (mul w.z m)))
def deepX (deep all : Int) : Int := div ((sub deep 655).tdiv 5) all
/-- Two taken apart. -/
def partX (B : Nat → Bd) (i k : Nat) (x y all : Int) (w : V3) (deep : Int) : Nat → Bd :=
  let B1 := upd B i (backX (B i) w (mul (deepX deep all) x))
  upd B1 k (forthX (B1 k) w (mul (deepX deep all) y))
def stepX (n : Nat) (B : Nat → Bd) (t : Tc) : Nat → Bd :=
  match findX B t.a n, findX B t.b n with
  | some i, some k => if i = k ∨ t.deep ≤ 655 then B else
      if 0 < add (lightX (B i).ms) (lightX (B k).ms) then partX B i k (lightX (B i).ms) (lightX (B k).ms) (add (lightX (B i).ms) (lightX (B k).ms)) t.way t.deep else B
  | _, _ => B
def placesX (n : Nat) (B : Nat → Bd) (T : Nat → Tc) : Nat → Nat → Bd
  | 0 => B
  | m + 1 => stepX n (placesX n B T m) (T m)
theorem partX_id (B : Nat → Bd) (i k : Nat) (x y all : Int) (w : V3) (deep : Int) (j : Nat) : (partX B i k x y all w deep j).id = (B j).id ∧ (partX B i k x y all w deep j).ms = (B j).ms := by
  simp only [partX, upd, backX, forthX, atX]
  by_cases h1 : j = k
  · subst h1
    by_cases h2 : j = i
    · subst h2; simp
    · simp [h2]
  · by_cases h2 : j = i
    · subst h2; simp [h1]
    · simp [h1, h2]
theorem stepX_cases (n : Nat) (B : Nat → Bd) (t : Tc) : stepX n B t = B ∨ ∃ i k x y all, stepX n B t = partX B i k x y all t.way t.deep := by
  unfold stepX
  cases findX B t.a n with
  | none => exact Or.inl rfl
  | some i =>
    cases findX B t.b n with
    | none => exact Or.inl rfl
    | some k =>
      simp only
      by_cases h : i = k ∨ t.deep ≤ 655
      · rw [if_pos h]; exact Or.inl rfl
      · rw [if_neg h]
        by_cases h2 : 0 < add (lightX (B i).ms) (lightX (B k).ms)
        · rw [if_pos h2]; exact Or.inr ⟨_, _, _, _, _, rfl⟩
        · rw [if_neg h2]; exact Or.inl rfl
theorem stepX_id (n : Nat) (B : Nat → Bd) (t : Tc) (j : Nat) : (stepX n B t j).id = (B j).id ∧ (stepX n B t j).ms = (B j).ms := by
  rcases stepX_cases n B t with h | ⟨i, k, x, y, all, h⟩
  · rw [h]; exact ⟨rfl, rfl⟩
  · rw [h]; exact partX_id ..
theorem placesX_id (n : Nat) (B : Nat → Bd) (T : Nat → Tc) : ∀ m j, (placesX n B T m j).id = (B j).id ∧ (placesX n B T m j).ms = (B j).ms
  | 0, j => ⟨rfl, rfl⟩
  | m + 1, j => by
    have h1 := stepX_id n (placesX n B T m) (T m) j
    have h2 := placesX_id n B T m j
    exact ⟨h1.1.trans h2.1, h1.2.trans h2.2⟩

theorem light_calls (m : Int) (w : World) : Calls Tryz.prog 60 #[.int .i64 m] w fun e w' => e = .returned (.int .i64 (lightX m)) ∧ Kept w w' := by
  by_cases h : m ≤ 0
  · have t : decide (m ≤ 0) = true := by simpa using h
    have HR : Hid (lightX m = 0) := if_pos h
    clear h
    go_enter Tryz.func60, Tryz.ntmps60
    go_wp2_with fail
    go_ret
    exact ⟨ret_int HR.out.symm, Kept.refl _⟩
  · have t : decide (m ≤ 0) = false := by simpa using h
    have HR : Hid (lightX m = div 65536 m) := if_neg h
    clear h
    go_enter Tryz.func60, Tryz.ntmps60
    go_wp2_with fail
    refine (div_calls 65536 m _).mono ?_
    rintro e w1 ⟨rfl, k1⟩
    go_wp2_with fail
    go_ret
    exact ⟨ret_int HR.out.symm, k1⟩
end Go.Proofs.YtbfkloclmlnahabGreat

namespace Go.Proofs.YtbfkloclmlnahabGreat
open Go.ChangeShapes Go.WideShapes Go.ChangeAt Go.RowKit
set_option linter.unusedVariables false
set_option linter.unusedSimpArgs false

def bdL (b : Bd) : List Value := [.int .i64 (b.id), .int .i64 (b.ow), .int .i64 (b.kd), .int .i64 (b.sx), .int .i64 (b.sy), .int .i64 (b.sz), .int .i64 (b.ax), .int .i64 (b.ay), .int .i64 (b.az), .int .i64 (b.vx), .int .i64 (b.vy), .int .i64 (b.vz), .int .i64 (b.px), .int .i64 (b.py), .int .i64 (b.pz), .int .i64 (b.ms), .int .i64 (b.tm)]
theorem bdL_len (b : Bd) : (bdL b).length = 17 := rfl
theorem bdL_at (b : Bd) (k : Nat) (hk : k < 17) : (bdL b)[k]? = some (bc b k) := by
  match k, hk with
  | 0, _ => exact rfl
  | 1, _ => exact rfl
  | 2, _ => exact rfl
  | 3, _ => exact rfl
  | 4, _ => exact rfl
  | 5, _ => exact rfl
  | 6, _ => exact rfl
  | 7, _ => exact rfl
  | 8, _ => exact rfl
  | 9, _ => exact rfl
  | 10, _ => exact rfl
  | 11, _ => exact rfl
  | 12, _ => exact rfl
  | 13, _ => exact rfl
  | 14, _ => exact rfl
  | 15, _ => exact rfl
  | 16, _ => exact rfl
  | k + 17, h => exact absurd h (by omega)
/-- The cells of the first n. -/
def rowsL (B : Nat → Bd) : Nat → List Value
  | 0 => []
  | n + 1 => rowsL B n ++ bdL (B n)
theorem rowsL_len (B : Nat → Bd) : ∀ n, (rowsL B n).length = n * 17
  | 0 => rfl
  | n + 1 => by simp only [rowsL, List.length_append, rowsL_len B n, bdL_len]; omega
theorem rowsL_at (B : Nat → Bd) : ∀ n j k, j < n → k < 17 → (rowsL B n)[j * 17 + k]? = some (bc (B j) k)
  | 0, j, k, hj, _ => by omega
  | n + 1, j, k, hj, hk => by
    simp only [rowsL]
    by_cases e : j = n
    · subst e
      rw [List.getElem?_append_right (by rw [rowsL_len]; omega), rowsL_len]
      rw [show j * 17 + k - j * 17 = k by omega]
      exact bdL_at _ k hk
    · rw [List.getElem?_append_left (by rw [rowsL_len]; omega)]
      exact rowsL_at B n j k (by omega) hk
theorem rowsL_cells {w : World} {g o n : Nat} {B : Nat → Bd} (h : BodiesAt w (some ⟨g, o, none⟩) n B) : ∀ j u, (rowsL B n)[j]? = some u → w.cell? ((⟨g, o, none⟩ : Addr).add j) = some u := by
  intro j u hu
  have hj : j < n * 17 := by
    have := (List.getElem?_eq_some_iff.1 hu).1
    rwa [rowsL_len] at this
  have h1 : j / 17 < n := by omega
  have h2 : j % 17 < 17 := by omega
  have h3 : j = j / 17 * 17 + j % 17 := by omega
  rw [h3, rowsL_at B n _ _ h1 h2] at hu
  obtain ⟨g', o', e, hc⟩ := h _ h1
  injection e with e; injection e with e1 e2
  subst e1; subst e2
  have h4 := hc _ h2
  injection hu with hu
  rw [hu] at h4
  rw [add_plain, h3, ← Nat.add_assoc]
  exact h4
theorem rowsL_all {w : World} {ad : Addr} {n : Nat} {B : Nat → Bd} (h : BodiesAt w (some ad) n B) : ∀ j u, (rowsL B n)[j]? = some u → w.cell? (ad.add j) = some u := by
  by_cases h0 : n = 0
  · subst h0; intro j u hu; simp [rowsL] at hu
  · obtain ⟨g, o, e, _⟩ := h 0 (by omega)
    injection e with e
    subst e
    exact rowsL_cells h
theorem rowsL_one (B : Nat → Bd) : ∀ n, ∀ u ∈ rowsL B n, u.oneCell' = true
  | 0, u, h => by simp [rowsL] at h
  | n + 1, u, h => by
    simp only [rowsL, List.mem_append] at h
    rcases h with h | h
    · exact rowsL_one B n u h
    · simp only [bdL, List.mem_cons, List.not_mem_nil, or_false] at h
      rcases h with rfl | rfl | rfl | rfl | rfl | rfl | rfl | rfl | rfl | rfl | rfl | rfl | rfl | rfl | rfl | rfl | rfl <;> rfl
/-- A slice of n bodies at the head of block g, that may be written into. -/
def OwnB (w : World) (g n : Nat) (B : Nat → Bd) : Prop := ∃ cur : Array Value, w.heap[g]? = some (.cells cur 37 (0, 0)) ∧ ∀ j, j < n → ∀ k, k < 17 → cur[j * 17 + k]? = some (bc (B j) k)
def OwnS (w : World) (a : Option Addr) (g n : Nat) (B : Nat → Bd) : Prop := n = 0 ∨ (a = some ⟨g, 0, none⟩ ∧ OwnB w g n B)
theorem OwnB.cell {w : World} {g n : Nat} {B : Nat → Bd} (h : OwnB w g n B) {j k : Nat} (hj : j < n) (hk : k < 17) : w.cell? ⟨g, j * 17 + k, none⟩ = some (bc (B j) k) := by
  obtain ⟨cur, hb, hc⟩ := h
  simp [World.cell?, hb, hc j hj k hk]
theorem OwnB.free {w : World} {g n : Nat} {B : Nat → Bd} (h : OwnB w g n B) (i : Nat) : w.frozen? ⟨g, i, none⟩ = false := by
  obtain ⟨cur, hb, hc⟩ := h
  simp [World.frozen?, hb]
theorem OwnB.only {D : List Nat} {w w' : World} {g n : Nat} {B : Nat → Bd} (h : OwnB w g n B) (o : Only D w w') (s : g ∉ D) : OwnB w' g n B := by
  obtain ⟨cur, hb, hc⟩ := h
  exact ⟨cur, (o.block g (Array.getElem?_eq_some_iff.1 hb).1 s).trans hb, hc⟩
theorem OwnB.lt {w : World} {g n : Nat} {B : Nat → Bd} (h : OwnB w g n B) : g < w.heap.size := by
  obtain ⟨cur, hb, hc⟩ := h
  exact (Array.getElem?_eq_some_iff.1 hb).1
theorem OwnS.only {D : List Nat} {w w' : World} {a : Option Addr} {g n : Nat} {B : Nat → Bd} (h : OwnS w a g n B) (o : Only D w w') (s : g ∉ D) : OwnS w' a g n B := h.imp id (fun q => ⟨q.1, q.2.only o s⟩)
theorem OwnS.bodies {w : World} {a : Option Addr} {g n : Nat} {B : Nat → Bd} (h : OwnS w a g n B) : BodiesAt w a n B := by
  intro j hj
  rcases h with h | ⟨rfl, h⟩
  · omega
  · exact ⟨g, 0, rfl, fun k hk => by rw [Nat.zero_add]; exact h.cell hj hk⟩
theorem OwnS.of_row {w : World} {v : Value} {base n : Nat} {B : Nat → Bd} (h : w.ownsRow base 37 17 v n (rowsL B n)) : ∃ a g c, v = .slice a n c ∧ OwnS w a g n B ∧ (n ≠ 0 → base ≤ g) := by
  obtain ⟨hl, ⟨rfl, rfl⟩ | ⟨g, cap, cur, rfl, hb, hh, h1, h2, h3, h4⟩⟩ := h
  · exact ⟨none, 0, 0, rfl, Or.inl rfl, fun h => absurd rfl h⟩
  · refine ⟨_, g, cap, rfl, Or.inr ⟨rfl, cur, hh, fun j hj k hk => ?_⟩, fun _ => hb⟩
    have := rowsL_at B n j k hj hk
    rw [← h4, List.getElem?_take_of_lt (by omega), Array.getElem?_toList] at this
    exact this
theorem OwnS.of_rowN {w : World} {v : Value} {base n : Nat} {B : Nat → Bd} (h : w.ownsRow base 37 17 v n (rowsL B n)) : ∃ a g c, v = .slice a n c ∧ OwnS w a g n B ∧ (n ≠ 0 → base ≤ g) ∧ (a = none → n = 0 ∧ c = 0) := by
  have h0 := h
  obtain ⟨hl, ⟨rfl, rfl⟩ | ⟨g, cap, cur, rfl, hb, hh, h1, h2, h3, h4⟩⟩ := h
  · exact ⟨none, 0, 0, rfl, Or.inl rfl, fun h => absurd rfl h, fun _ => ⟨rfl, rfl⟩⟩
  · obtain ⟨a, g', c, e, hS, hg⟩ := OwnS.of_row h0
    injection e with e1 e2 e3
    subst e1 e3
    exact ⟨_, g', _, rfl, hS, hg, fun e => by cases e⟩
def FreshPost (n : Nat) (B : Nat → Bd) (w : World) (e : Ending) (w' : World) : Prop :=
  ∃ a g c, e = .returned (.slice a n c) ∧ OwnS w' a g n B ∧ Only [] w w' ∧ w.heap.size ≤ g ∧ (a = none → n = 0 ∧ c = 0)
theorem bodyInfo : (Tryz.prog.info? 37).map (fun i => (i.zero, i.size, i.bytes)) = some (some (.agg #[.int .i64 0, .int .i64 0, .int .i64 0, .int .i64 0, .int .i64 0, .int .i64 0, .int .i64 0, .int .i64 0, .int .i64 0, .int .i64 0, .int .i64 0, .int .i64 0, .int .i64 0, .int .i64 0, .int .i64 0, .int .i64 0, .int .i64 0]), 17, 136) := by kernel_rfl
theorem info_parts' {P : Program} {t : TypeId} {z : Value} {n b : Nat} (h : (P.info? t).map (fun i => (i.zero, i.size, i.bytes)) = some (some z, n, b)) : ∃ i, P.info? t = some i ∧ i.zero = some z ∧ i.size = n ∧ i.bytes = b := by
  cases hi : P.info? t with
  | none => rw [hi] at h; cases h
  | some i =>
    rw [hi] at h
    simp only [Option.map_some, Option.some.injEq, Prod.mk.injEq] at h
    exact ⟨i, rfl, h.1, h.2.1, h.2.2⟩
set_option maxRecDepth 100000 in
theorem fresh_calls (a : Option Addr) (n c : Nat) (B : Nat → Bd) (w : World) (hn : n ≤ 1000) (h : BodiesAt w a n B) (hc : a = none → n = 0 ∧ c = 0) :
    Calls Tryz.prog 38 #[.slice a n c] w (FreshPost n B w) := by
  obtain ⟨i2, hi0, hz0, hz1, hz2⟩ := info_parts' bodyInfo
  cases a with
  | none =>
    obtain ⟨rfl, rfl⟩ := hc rfl
    go_enter Tryz.func38, Tryz.ntmps38
    go_wp2_with fail
    go_ret
    exact ⟨none, w.heap.size, 0, rfl, Or.inl rfl, Only.refl _ _, Nat.le_refl _, fun _ => ⟨rfl, rfl⟩⟩
  | some ad =>
    have hcell := rowsL_all h
    have HB : Hid (n ≤ 1000) := hn
    clear h hc
    go_enter Tryz.func38, Tryz.ntmps38
    go_wp2_with (first | (at_builtin; refine wpList_append_own_at _ rfl _ _ 22 rfl w.heap.size 37 i2 (.agg #[.int .i64 0, .int .i64 0, .int .i64 0, .int .i64 0, .int .i64 0, .int .i64 0, .int .i64 0, .int .i64 0, .int .i64 0, .int .i64 0, .int .i64 0, .int .i64 0, .int .i64 0, .int .i64 0, .int .i64 0, .int .i64 0, .int .i64 0]) 17 136 Tryz.underlying22 hi0 hz0 hz1 hz2 rfl (by decide) (.slice none 0 0) 0 [] rfl (World.ownsRow_nil w _ _ _) ad n c (rowsL B n) rfl (rowsL_len B n) hcell (rowsL_one B n) (by unfold maxLen; omega) (by omega) (Nat.le_refl _) ?_; intro v' w5 hown hgrow hnil hloc; simp only [Nat.zero_add, List.nil_append] at hown; have H5 : Hid (w5.ownsRow w.heap.size 37 17 v' n (rowsL B n) ∧ Only [] w w5) := ⟨hown, (Only.refl [] w).grown hgrow (fun k hk => by cases hk)⟩; clear hown hgrow hnil hloc hcell))
    go_ret
    obtain ⟨a', g', c', rfl, hS, hg, hsl⟩ := OwnS.of_rowN H5.out.1
    by_cases h0 : n = 0
    · exact ⟨a', w.heap.size, c', rfl, Or.inl h0, H5.out.2, Nat.le_refl _, hsl⟩
    · exact ⟨a', g', c', rfl, hS, H5.out.2, hg h0, hsl⟩
end Go.Proofs.YtbfkloclmlnahabGreat

namespace Go.Proofs.YtbfkloclmlnahabGreat
open Go.ChangeShapes Go.WideShapes Go.ChangeAt Go.RowKit
set_option linter.unusedVariables false
set_option linter.unusedSimpArgs false

theorem bodySize : (Tryz.prog.info? 37).map (·.size) = some 17 := by kernel_rfl
theorem there17 {w : World} {kr : Nat} {cur : Array Value} (h : w.heap[kr]? = some (.cells cur 37)) (hs : cur.size = 17) : w.there kr 0 17 := fun j hj => by
  have h1 : j < cur.size := by omega
  simp [World.cell?, World.frozen?, h, h1]
theorem one17 (q : Bd) : (bdL q).toArray.all (·.oneCell') = true := all_oneCell_toArray (fun v hv => by
  simp only [bdL, List.mem_cons, List.not_mem_nil, or_false] at hv
  rcases hv with rfl | rfl | rfl | rfl | rfl | rfl | rfl | rfl | rfl | rfl | rfl | rfl | rfl | rfl | rfl | rfl | rfl <;> rfl)
theorem range17 {w : World} {g o : Nat} {q : Bd} (h : ∀ k, k < 17 → w.cell? ⟨g, o + k, none⟩ = some (bc q k)) : w.rangeAt g o (bdL q) := fun j v hv => by
  have hj : j < 17 := by have := (List.getElem?_eq_some_iff.1 hv).1; rw [bdL_len] at this; exact this
  rw [bdL_at q j hj] at hv
  injection hv with hv
  rw [← hv]; exact h j hj
theorem Only.setCells {D : List Nat} {a w : World} (h : Only D a w) (b : Nat) (hb : b ∈ D ∨ a.heap.size ≤ b) (vs : List Value) : ∀ (o : Nat), Only D a (w.setCells b o vs) := by
  induction vs generalizing w with
  | nil => intro o; exact h
  | cons v vs ih => intro o; exact ih (h.setCell (p := ⟨b, o, none⟩) hb v) (o + 1)
def BodyAt (w : World) (kb : Nat) (q : Bd) : Prop := w.heap[kb]? = some (.cells #[.int .i64 (q.id), .int .i64 (q.ow), .int .i64 (q.kd), .int .i64 (q.sx), .int .i64 (q.sy), .int .i64 (q.sz), .int .i64 (q.ax), .int .i64 (q.ay), .int .i64 (q.az), .int .i64 (q.vx), .int .i64 (q.vy), .int .i64 (q.vz), .int .i64 (q.px), .int .i64 (q.py), .int .i64 (q.pz), .int .i64 (q.ms), .int .i64 (q.tm)] 37)
theorem BodyAt.only {w w' : World} {kb : Nat} {q : Bd} (h : BodyAt w kb q) (o : Only [] w w') : BodyAt w' kb q := (o.block kb (Array.getElem?_eq_some_iff.1 h).1 (by simp)).trans h
theorem BodyAt.off {w : World} {kb : Nat} {q : Bd} (h : BodyAt w kb q) (j : Nat) : w.cell? ⟨kb, j, none⟩ = (#[.int .i64 (q.id), .int .i64 (q.ow), .int .i64 (q.kd), .int .i64 (q.sx), .int .i64 (q.sy), .int .i64 (q.sz), .int .i64 (q.ax), .int .i64 (q.ay), .int .i64 (q.az), .int .i64 (q.vx), .int .i64 (q.vy), .int .i64 (q.vz), .int .i64 (q.px), .int .i64 (q.py), .int .i64 (q.pz), .int .i64 (q.ms), .int .i64 (q.tm)] : Array Value)[j]? := by
  unfold BodyAt at h; simp [World.cell?, h]
theorem BodyAt.range {w : World} {kb : Nat} {q : Bd} (h : BodyAt w kb q) : ∀ k, k < 17 → w.cell? ⟨kb, 0 + k, none⟩ = some (bc q k) := fun k hk => by
  have h1 := h.off k
  rw [Nat.zero_add, h1]
  match k, hk with
  | 0, _ => rfl
  | 1, _ => rfl
  | 2, _ => rfl
  | 3, _ => rfl
  | 4, _ => rfl
  | 5, _ => rfl
  | 6, _ => rfl
  | 7, _ => rfl
  | 8, _ => rfl
  | 9, _ => rfl
  | 10, _ => rfl
  | 11, _ => rfl
  | 12, _ => rfl
  | 13, _ => rfl
  | 14, _ => rfl
  | 15, _ => rfl
  | 16, _ => rfl
  | k + 17, h => exact absurd h (by omega)
end Go.Proofs.YtbfkloclmlnahabGreat

namespace Go.Proofs.YtbfkloclmlnahabGreat
open Go.ChangeShapes Go.WideShapes Go.ChangeAt Go.RowKit

theorem part0_calls (x y z : Int) (w : World) : Calls Tryz.prog 123 #[.agg #[.int .i64 x, .int .i64 y, .int .i64 z]] w fun e w' => e = .returned (.int .i64 x) ∧ Kept w w' := by
  go_enter Tryz.func123, Tryz.ntmps123
  go_wp2
  go_ret
  exact ⟨rfl, (Kept.refl _).alloc _ _⟩
theorem part1_calls (x y z : Int) (w : World) : Calls Tryz.prog 124 #[.agg #[.int .i64 x, .int .i64 y, .int .i64 z]] w fun e w' => e = .returned (.int .i64 y) ∧ Kept w w' := by
  go_enter Tryz.func124, Tryz.ntmps124
  go_wp2
  go_ret
  exact ⟨rfl, (Kept.refl _).alloc _ _⟩
theorem part2_calls (x y z : Int) (w : World) : Calls Tryz.prog 125 #[.agg #[.int .i64 x, .int .i64 y, .int .i64 z]] w fun e w' => e = .returned (.int .i64 z) ∧ Kept w w' := by
  go_enter Tryz.func125, Tryz.ntmps125
  go_wp2
  go_ret
  exact ⟨rfl, (Kept.refl _).alloc _ _⟩
theorem parts_calls (w : World) : Calls Tryz.prog 113 #[] w fun e w' => e = .returned (.agg #[.func (.func 123) #[] #[], .func (.func 124) #[] #[], .func (.func 125) #[] #[]]) ∧ Kept w w' := by
  go_enter Tryz.func113, Tryz.ntmps113
  go_wp2
  exact bodyPost_ret (v := .agg #[.func (.func 123) #[] #[], .func (.func 124) #[] #[], .func (.func 125) #[] #[]]) (by simp [results, Tryz.results113, go_sem]) rfl ⟨rfl, (Kept.refl _).alloc _ _⟩
theorem sized_calls (n : Int) (w : World) : Calls Tryz.prog 83 #[.int .i64 n] w fun e w' => e = .returned (.bool (decide (1 ≤ n) && decide (n ≤ 3276800))) ∧ Kept w w' := by
  by_cases h1 : 1 ≤ n
  · by_cases h2 : n ≤ 3276800
    · rw [decide_eq_true h1, decide_eq_true h2]
      go_enter Tryz.func83, Tryz.ntmps83
      go_wp2
      go_ret
      exact ⟨rfl, Kept.refl _⟩
    · rw [decide_eq_true h1, decide_eq_false h2]
      go_enter Tryz.func83, Tryz.ntmps83
      go_wp2
      go_ret
      exact ⟨rfl, Kept.refl _⟩
  · rw [decide_eq_false h1]
    go_enter Tryz.func83, Tryz.ntmps83
    go_wp2
    go_ret
    exact ⟨rfl, Kept.refl _⟩

/-- What a closure answers where 'Pre' holds, and that it keeps. -/
def Ans (fn : Nat) (args : Array Value) (Pre : World → Prop) (v : Value) : Prop := ∀ w, Pre w → Calls Tryz.prog fn args w fun e w' => e = .returned v ∧ Kept w w'
set_option maxRecDepth 100000 in
set_option maxHeartbeats 4000000 in
theorem all_calls (fn : Nat) (cap : Array Value) (b0 b1 b2 : Bool) (he : ∀ args w, (callFunc fn args).run Tryz.prog w = .ok (.enter fn args) w)
    (Pre : World → Prop) (hs : Hid (∀ w w', Kept w w' → Pre w → Pre w'))
    (h0 : Ans fn (#[.func (.func 123) #[] #[]] ++ cap) Pre (.bool b0)) (h1 : Ans fn (#[.func (.func 124) #[] #[]] ++ cap) Pre (.bool b1)) (h2 : Ans fn (#[.func (.func 125) #[] #[]] ++ cap) Pre (.bool b2))
    (w : World) (hp : Pre w) : Calls Tryz.prog 84 #[.func (.func fn) #[] cap] w fun e w' => e = .returned (.bool (b0 && b1 && b2)) ∧ Kept w w' := by
  have i0 : ∀ w : World, (Instr.index 155 (.agg #[.func (.func 123) #[] #[], .func (.func 124) #[] #[], .func (.func 125) #[] #[]]) (.int .i64 0)).run Tryz.prog w = .ok (.func (.func 123) #[] #[]) w := fun _ => rfl
  have i1 : ∀ w : World, (Instr.index 155 (.agg #[.func (.func 123) #[] #[], .func (.func 124) #[] #[], .func (.func 125) #[] #[]]) (.int .i64 1)).run Tryz.prog w = .ok (.func (.func 124) #[] #[]) w := fun _ => rfl
  have i2 : ∀ w : World, (Instr.index 155 (.agg #[.func (.func 123) #[] #[], .func (.func 124) #[] #[], .func (.func 125) #[] #[]]) (.int .i64 2)).run Tryz.prog w = .ok (.func (.func 125) #[] #[]) w := fun _ => rfl
  cases b0 with
  | false =>
    go_enter Tryz.func84, Tryz.ntmps84
    go_wp2_with fail
    refine (parts_calls _).mono ?_; rintro e w1 ⟨rfl, k1⟩
    have q0 : Pre w1 := hs.out _ _ k1 hp
    clear hp
    go_wp2_with fail
    refine wp_loop_rounds 4 ?_
    rw [rounds_succ]
    go_wp2_with fail
    go_at_fn fn
    refine (h0 _ q0).mono ?_; rintro e w2 ⟨rfl, k2⟩
    have q1 : Pre w2 := hs.out _ _ k2 q0
    clear q0
    go_wp2
    go_ret
    exact ⟨rfl, (k1).trans k2⟩
  | true =>
    cases b1 with
    | false =>
      go_enter Tryz.func84, Tryz.ntmps84
      go_wp2_with fail
      refine (parts_calls _).mono ?_; rintro e w1 ⟨rfl, k1⟩
      have q0 : Pre w1 := hs.out _ _ k1 hp
      clear hp
      go_wp2_with fail
      refine wp_loop_rounds 4 ?_
      rw [rounds_succ]
      go_wp2_with fail
      go_at_fn fn
      refine (h0 _ q0).mono ?_; rintro e w2 ⟨rfl, k2⟩
      have q1 : Pre w2 := hs.out _ _ k2 q0
      clear q0
      go_wp2_with fail
      rw [rounds_succ]
      go_wp2_with fail
      go_at_fn fn
      refine (h1 _ q1).mono ?_; rintro e w3 ⟨rfl, k3⟩
      have q2 : Pre w3 := hs.out _ _ k3 q1
      clear q1
      go_wp2
      go_ret
      exact ⟨rfl, ((k1).trans k2).trans k3⟩
    | true =>
      cases b2 with
      | false =>
        go_enter Tryz.func84, Tryz.ntmps84
        go_wp2_with fail
        refine (parts_calls _).mono ?_; rintro e w1 ⟨rfl, k1⟩
        have q0 : Pre w1 := hs.out _ _ k1 hp
        clear hp
        go_wp2_with fail
        refine wp_loop_rounds 4 ?_
        rw [rounds_succ]
        go_wp2_with fail
        go_at_fn fn
        refine (h0 _ q0).mono ?_; rintro e w2 ⟨rfl, k2⟩
        have q1 : Pre w2 := hs.out _ _ k2 q0
        clear q0
        go_wp2_with fail
        rw [rounds_succ]
        go_wp2_with fail
        go_at_fn fn
        refine (h1 _ q1).mono ?_; rintro e w3 ⟨rfl, k3⟩
        have q2 : Pre w3 := hs.out _ _ k3 q1
        clear q1
        go_wp2_with fail
        rw [rounds_succ]
        go_wp2_with fail
        go_at_fn fn
        refine (h2 _ q2).mono ?_; rintro e w4 ⟨rfl, k4⟩
        have q3 : Pre w4 := hs.out _ _ k4 q2
        clear q2
        go_wp2
        go_ret
        exact ⟨rfl, (((k1).trans k2).trans k3).trans k4⟩
      | true =>
        go_enter Tryz.func84, Tryz.ntmps84
        go_wp2_with fail
        refine (parts_calls _).mono ?_; rintro e w1 ⟨rfl, k1⟩
        have q0 : Pre w1 := hs.out _ _ k1 hp
        clear hp
        go_wp2_with fail
        refine wp_loop_rounds 4 ?_
        rw [rounds_succ]
        go_wp2_with fail
        go_at_fn fn
        refine (h0 _ q0).mono ?_; rintro e w2 ⟨rfl, k2⟩
        have q1 : Pre w2 := hs.out _ _ k2 q0
        clear q0
        go_wp2_with fail
        rw [rounds_succ]
        go_wp2_with fail
        go_at_fn fn
        refine (h1 _ q1).mono ?_; rintro e w3 ⟨rfl, k3⟩
        have q2 : Pre w3 := hs.out _ _ k3 q1
        clear q1
        go_wp2_with fail
        rw [rounds_succ]
        go_wp2_with fail
        go_at_fn fn
        refine (h2 _ q2).mono ?_; rintro e w4 ⟨rfl, k4⟩
        have q3 : Pre w4 := hs.out _ _ k4 q2
        clear q2
        go_wp2_with fail
        rw [rounds_succ]
        go_wp2
        go_ret
        exact ⟨rfl, (((k1).trans k2).trans k3).trans k4⟩
end Go.Proofs.YtbfkloclmlnahabGreat

namespace Go.Proofs.YtbfkloclmlnahabGreat
open Go.ChangeShapes Go.WideShapes Go.ChangeAt Go.RowKit

def G3o (w : World) (b0 b1 : Nat) (v0 v1 v2 : Value) (w' : World) : Prop :=
  Kept w w' ∧
  w'.cell? ⟨b0, 0, none⟩ = some v0 ∧
  w'.cell? ⟨b0, 1, none⟩ = some v1 ∧
  w'.cell? ⟨b0, 2, none⟩ = some v2 ∧
  w'.cell? ⟨b1, 0, none⟩ = some (cellV w' ⟨b1, 0, none⟩) ∧
  w'.cell? ⟨b1, 1, none⟩ = some (cellV w' ⟨b1, 1, none⟩) ∧
  w'.cell? ⟨b1, 2, none⟩ = some (cellV w' ⟨b1, 2, none⟩) ∧
  w'.frozen? ⟨b1, 0, none⟩ = false ∧
  w'.frozen? ⟨b1, 1, none⟩ = false ∧
  w'.frozen? ⟨b1, 2, none⟩ = false
theorem G3o.step {w w1 w2 : World} {b0 b1 : Nat} {v0 v1 v2 : Value} (k : Kept w1 w2) (h : G3o w b0 b1 v0 v1 v2 w1) : G3o w b0 b1 v0 v1 v2 w2 := by
  obtain ⟨h0, h1, h2, h3, h4, h5, h6, h7, h8, h9⟩ := h
  exact ⟨h0.trans k, kept_cell k h1, kept_cell k h2, kept_cell k h3, kept_there k h4, kept_there k h5, kept_there k h6, kept_frozen k h7, kept_frozen k h8, kept_frozen k h9⟩
theorem G3o.drew {w w1 : World} {b0 b1 : Nat} {v0 v1 v2 : Value} (h : G3o w b0 b1 v0 v1 v2 w1) : G3o w b0 b1 v0 v1 v2 w1.drew := h.step (Kept.refl _).drew
theorem G3o.put {w w1 : World} {b0 b1 : Nat} {v0 v1 v2 : Value} (i : Nat) (v : Value) (ho : w.heap.size ≤ b1) (n0 : b0 ≠ b1) (h : G3o w b0 b1 v0 v1 v2 w1) : G3o w b0 b1 v0 v1 v2 (w1.setCell ⟨b1, i, none⟩ v) := by
  obtain ⟨h0, h1, h2, h3, h4, h5, h6, h7, h8, h9⟩ := h
  exact ⟨h0.setCell (p := ⟨b1, i, none⟩) ho v, (World.cell?_setCell_other _ _ _ _ (fun e => n0 (by injection e with e; exact e.symm))).trans h1, (World.cell?_setCell_other _ _ _ _ (fun e => n0 (by injection e with e; exact e.symm))).trans h2, (World.cell?_setCell_other _ _ _ _ (fun e => n0 (by injection e with e; exact e.symm))).trans h3, put_there h4, put_there h5, put_there h6, (World.frozen?_setCell _ _ _ _).trans h7, (World.frozen?_setCell _ _ _ _).trans h8, (World.frozen?_setCell _ _ _ _).trans h9⟩

set_option maxHeartbeats 4000000 in
theorem geach_calls (fn : Nat) (cap : Array Value) (r0 r1 r2 : Int) (he : ∀ args w, (callFunc fn args).run Tryz.prog w = .ok (.enter fn args) w)
    (Pre : World → Prop) (hs : Hid (∀ w w', Kept w w' → Pre w → Pre w'))
    (h0 : Ans fn (#[.func (.func 123) #[] #[]] ++ cap) Pre (.int .i64 r0)) (h1 : Ans fn (#[.func (.func 124) #[] #[]] ++ cap) Pre (.int .i64 r1)) (h2 : Ans fn (#[.func (.func 125) #[] #[]] ++ cap) Pre (.int .i64 r2))
    (w : World) (hp : Pre w) : Calls Tryz.prog 109 #[.func (.func fn) #[] cap] w fun e w' => e = .returned (.agg #[.int .i64 r0, .int .i64 r1, .int .i64 r2]) ∧ Kept w w' := by
  go_enter Tryz.func109, Tryz.ntmps109
  go_wp2_with fail
  refine (parts_calls _).mono ?_; rintro e w1 ⟨rfl, k1⟩
  go_wp2_with fail
  have hlt : w.heap.size < w1.heap.size := by have := k1.below.size; simp at this; omega
  have hn : w1.heap.size ≠ w.heap.size := by omega
  have HR : G3o w w1.heap.size w.heap.size (.func (.func 123) #[] #[]) (.func (.func 124) #[] #[]) (.func (.func 125) #[] #[]) (w1.alloc (.cells #[.func (.func 123) #[] #[], .func (.func 124) #[] #[], .func (.func 125) #[] #[]] 155)) := by
    refine ⟨(((Kept.refl w).alloc _ _).trans k1).alloc _ _, ?_, ?_, ?_, cellV_of (later (kept_cell k1 (v := .int .i64 0) ?_) _), cellV_of (later (kept_cell k1 (v := .int .i64 0) ?_) _), cellV_of (later (kept_cell k1 (v := .int .i64 0) ?_) _), laterF (kept_frozen k1 ?_) _ _, laterF (kept_frozen k1 ?_) _ _, laterF (kept_frozen k1 ?_) _ _⟩
    all_goals go_simp
  have HP : Hid (Pre w) := hp
  clear hp k1
  go_region_held3 (fun w' => Kept w w' ∧ w'.cell? ⟨w1.heap.size, 0, none⟩ = some (.func (.func 123) #[] #[]) ∧ w'.cell? ⟨w1.heap.size, 1, none⟩ = some (.func (.func 124) #[] #[]) ∧ w'.cell? ⟨w1.heap.size, 2, none⟩ = some (.func (.func 125) #[] #[]) ∧ w'.cell? ⟨w.heap.size, 0, none⟩ = some (cellV w' ⟨w.heap.size, 0, none⟩) ∧ w'.cell? ⟨w.heap.size, 1, none⟩ = some (cellV w' ⟨w.heap.size, 1, none⟩) ∧ w'.cell? ⟨w.heap.size, 2, none⟩ = some (cellV w' ⟨w.heap.size, 2, none⟩) ∧ w'.frozen? ⟨w.heap.size, 0, none⟩ = false ∧ w'.frozen? ⟨w.heap.size, 1, none⟩ = false ∧ w'.frozen? ⟨w.heap.size, 2, none⟩ = false)
    (first | (refine G3o.step k ?_; assumption) | exact G3o.drew HR | (refine G3o.put 2 _ (Nat.le_refl _) hn (G3o.put 1 _ (Nat.le_refl _) hn (G3o.put 0 _ (Nat.le_refl _) hn ?_)); assumption))
    (first | (go_at_fn fn; refine (h0 _ (hs.out _ _ (And.left (by assumption)) HP.out)).mono ?_; rintro e w' ⟨rfl, k⟩) | (go_at_fn fn; refine (h1 _ (hs.out _ _ (And.left (by assumption)) HP.out)).mono ?_; rintro e w' ⟨rfl, k⟩) | (go_at_fn fn; refine (h2 _ (hs.out _ _ (And.left (by assumption)) HP.out)).mono ?_; rintro e w' ⟨rfl, k⟩))
  rename_i hh
  go_wp2
  obtain ⟨hk, _, _, _, c0, c1, c2, _⟩ := hh
  obtain ⟨e0, e1, e2⟩ := set3 c0 c1 c2
  clear c0 c1 c2
  exact bodyPost_ret (v := .agg #[.int .i64 r0, .int .i64 r1, .int .i64 r2]) (by simp [results, Tryz.results109, go_sem, e0, e1, e2]) rfl ⟨rfl, hk⟩
end Go.Proofs.YtbfkloclmlnahabGreat
