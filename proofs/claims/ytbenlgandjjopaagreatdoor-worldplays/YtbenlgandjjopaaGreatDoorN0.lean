/- . -/
import Derived.Test.YtbenlgandjjopaaGreatDoorRows
import Derived.WalkKit
import Derived.ProofKit
import Derived.OpenShut
import Derived.Shelf.Bits.Mul64
namespace Go.Proofs.YtbenlgandjjopaaGreatDoor
set_option maxHeartbeats 1000000
theorem zQ : type_of% @List.getElem_toArray.{0} ∧ type_of% @List.getElem_cons_succ.{0} ∧ type_of% @List.getElem_cons_zero.{0} := ⟨@List.getElem_toArray,@List.getElem_cons_succ,@List.getElem_cons_zero⟩
theorem zR : type_of% @List.getElem?_toArray.{0} ∧ type_of% @List.getElem?_cons_succ.{0} ∧ type_of% @List.getElem?_cons_zero.{0} := ⟨@List.getElem?_toArray,@List.getElem?_cons_succ,@List.getElem?_cons_zero⟩
theorem zT : type_of% @Act.put.eq_1 ∧ type_of% @List.setIfInBounds_toArray.{0} ∧ type_of% @List.set_cons_zero.{0} ∧ type_of% @List.set_cons_succ.{0} := ⟨@Act.put.eq_1,@List.setIfInBounds_toArray,@List.set_cons_zero,@List.set_cons_succ⟩
theorem zP : type_of% @zT ∧ type_of% @zQ := ⟨zT,zQ⟩
abbrev Zc (w : World) (b o : Nat) (v : Int) : Prop := w.cell? ⟨b,o,none⟩ = some (.int .i64 v)
theorem zf {w : World} {b c i j : Nat} {v : Value} (n : b ≠ c) : (w.setCell ⟨c,i,none⟩ v).cell? ⟨b,j,none⟩ = w.cell? ⟨b,j,none⟩ := World.cell?_setCell_other _ _ _ _ (fun e => n (by injection e with e; exact e.symm))
abbrev Y (b o : Nat) : Addr := ⟨b,o,none⟩
abbrev I (v : Int) : Value := .int .i64 v
theorem hmfT : ∀ (fn : Fn) (first cap : Array Value) (w : World),(Instr.makeFunc fn first cap).run Tryz.prog w = .ok (.func fn first cap) w := fun _ _ _ _ => rfl
open Go.ChangeShapes Go.WideShapes Go.ChangeAt Go.RowKit
variable {n a b x y s l h k r : Int} {c : World}
structure Kept (w w' : World) : Prop where
 grown : Grown w w'
 below : Below w.heap.size w w'
theorem yg6 {a b : World} (h : Grown a b) (k : Grown b c) : Grown a c :=
 ⟨World.keptBut_trans h.1 k.1,fun x => (k.2.1 x).trans (h.2.1 x),Nat.le_trans h.2.2 k.2.2⟩
theorem Kept.refl (w : World) : Kept w w := ⟨Grown.refl _,Below.refl _ _⟩
theorem Kept.trans {a b c : World} (h : Kept a b) (k : Kept b c) : Kept a c :=
 ⟨yg6 h.grown k.grown,h.below.trans (k.below.mono h.below.size)⟩
theorem Kept.alloc {a b : World} (h : Kept a b) (c : Array Value) (t : TypeId) : Kept a (b.alloc (.cells c t)) :=
 ⟨h.grown.alloc c t,h.below.alloc h.below.size _⟩
theorem Kept.drew {a b : World} (h : Kept a b) : Kept a b.drew := ⟨h.grown.drew,h.below.drew⟩
theorem kd {w : World} : Kept w w.drew := (Kept.refl _).drew
theorem Kept.setCell {a b : World} (h : Kept a b) {p : Addr} (hp : a.heap.size ≤ p.block) (v : Value) : Kept a (b.setCell p v) :=
 ⟨h.grown.setCell hp v,h.below.setCell hp v⟩
theorem y1n {k : IntKind} (h : a = b) : Ending.returned (.int k a) = .returned (.int k b) := by rw [h]
def cut (n : Int) : Int := if 70368744177664 < n then 70368744177664 else if n < -70368744177664 then -70368744177664 else n
theorem cut_hi (h : 70368744177664 < n) : cut n = 70368744177664 := by unfold cut; rw [if_pos h]
theorem cut_lo (h : n < -70368744177664) : cut n = -70368744177664 := by unfold cut; rw [if_neg (by omega),if_pos h]
theorem y0l (h : -70368744177664 ≤ n) (k : n ≤ 70368744177664) : cut n = n := by unfold cut; rw [if_neg (by omega),if_neg (by omega)]
theorem y19 (n : Int) : cut n ≤ 70368744177664 := by
 unfold cut; split
 ·omega
 ·split <;> omega
theorem y1a (n : Int) : -70368744177664 ≤ cut n := by
 unfold cut; split
 ·omega
 ·split <;> omega
theorem y4a (n : Int) : cut (-n) = -cut n := by
 unfold cut; repeat' split
 all_goals omega
theorem yky (h : 70368744177664 ≤ n) : cut n = 70368744177664 := by
 unfold cut; repeat' split
 all_goals omega
theorem cut_T : cut 70368744177664 = 70368744177664 := y0l (by omega) (by omega)
theorem cut_nT : cut (-70368744177664) = -70368744177664 := y0l (by omega) (by omega)
def add (a b : Int) : Int := cut (cut a + cut b)
def sub (a b : Int) : Int := cut (cut a - cut b)
def absI (n : Int) : Int := if n < 0 then -n else n
def sgn (n : Int) : Int := if n < 0 then -1 else 1
theorem y2a (h : n < 0) : absI n = -n := by unfold absI; rw [if_pos h]
theorem y21 (h : ¬ n < 0) : absI n = n := by unfold absI; rw [if_neg h]
theorem y1m (h : n < 0) : sgn n = -1 := by unfold sgn; rw [if_pos h]
theorem y1o (h : ¬ n < 0) : sgn n = 1 := by unfold sgn; rw [if_neg h]
theorem y8y (h : -70368744177664 ≤ n) (k : n ≤ 70368744177664) : 0 ≤ absI n ∧ absI n ≤ 70368744177664 := by
 unfold absI; split <;> omega
theorem y33 (n : Int) : 0 ≤ absI (cut n) ∧ absI (cut n) ≤ 70368744177664 := y8y (y1a n) (y19 n)
def mul (a b : Int) : Int := cut ((cut a * cut b).tdiv 65536)
def hiI (x y : Int) : Int := x * y / 18446744073709551616
def loI (x y : Int) : Int := x * y % 18446744073709551616
theorem y1b (hx : 0 ≤ x) (hy : 0 ≤ y) : 0 ≤ x * y := Int.mul_nonneg hx hy
theorem yjw (h : (a < 0) ↔ (b < 0)) : (a * b).tdiv 65536 = absI a * absI b / 65536 := by
 have e : a * b = absI a * absI b := by
  by_cases ha : a < 0
  ·rw [y2a ha,y2a (h.1 ha),Int.neg_mul_neg]
  ·rw [y21 ha,y21 (fun hb => ha (h.2 hb))]
 have p : 0 ≤ absI a * absI b := y1b (by unfold absI; split <;> omega) (by unfold absI; split <;> omega);rw [e,Int.tdiv_eq_ediv_of_nonneg p]
theorem yha (h : (a < 0) ↔ ¬ (b < 0)) : (a * b).tdiv 65536 = -(absI a * absI b / 65536) := by
 have e : a * b = -(absI a * absI b) := by
  by_cases ha : a < 0
  ·rw [y2a ha,y21 (h.1 ha),Int.neg_mul,Int.neg_neg]
  ·have hb : b < 0 := by
    by_cases hb : b < 0
    ·exact hb
    ·exact absurd (h.2 hb) ha
   rw [y21 ha,y2a hb,Int.mul_neg,Int.neg_neg]
 have p : 0 ≤ absI a * absI b := y1b (by unfold absI; split <;> omega) (by unfold absI; split <;> omega);rw [e,Int.neg_tdiv,Int.tdiv_eq_ediv_of_nonneg p]
theorem lo_of_hi (h : hiI x y = 0) : loI x y = x * y := by unfold hiI at h; unfold loI; omega
theorem yji (x y : Int) : 0 ≤ loI x y ∧ loI x y ≤ 18446744073709551615 := by unfold loI; omega
theorem yk4 (hx : 0 ≤ x) (hx' : x ≤ 70368744177664) (hy : 0 ≤ y) (hy' : y ≤ 70368744177664) : 0 ≤ hiI x y ∧ hiI x y ≤ 70368744177664 := by
 have p : 0 ≤ x * y := y1b hx hy;have q : x * y ≤ 70368744177664 * 70368744177664 := Int.mul_le_mul hx' hy' hy (by omega);unfold hiI; omega
theorem ykj (hx : 0 ≤ x) (hy : 0 ≤ y) (h : hiI x y ≠ 0) : 70368744177664 ≤ x * y / 65536 := by
 have p : 0 ≤ x * y := y1b hx hy;unfold hiI at h; omega
theorem ycs (h : (cut a < 0) ↔ (cut b < 0)) : mul a b = cut (absI (cut a) * absI (cut b) / 65536) := by unfold mul; rw [yjw h]
theorem y7v (h : (cut a < 0) ↔ ¬ (cut b < 0)) : mul a b = -cut (absI (cut a) * absI (cut b) / 65536) := by unfold mul; rw [yha h,y4a]
theorem mul_lo (h : hiI (absI (cut a)) (absI (cut b)) = 0) : cut (loI (absI (cut a)) (absI (cut b)) / 65536) = cut (absI (cut a) * absI (cut b) / 65536) := by rw [lo_of_hi h]
theorem mul_hi (h : hiI (absI (cut a)) (absI (cut b)) ≠ 0) : cut (absI (cut a) * absI (cut b) / 65536) = 70368744177664 :=
 yky (ykj (y33 a).1 (y33 b).1 h)
theorem ykv (a b : Int) : sgn (cut a) * sgn (cut b) * cut (absI (cut a) * absI (cut b) / 65536) = mul a b := by
 by_cases ha : cut a < 0 <;> by_cases hb : cut b < 0
 ·rw [y1m ha,y1m hb,ycs (iff_of_true ha hb)]; omega
 ·rw [y1m ha,y1o hb,y7v (iff_of_true ha hb)]; omega
 ·rw [y1o ha,y1m hb,y7v (iff_of_false ha (fun h => h hb))]; omega
 ·rw [y1o ha,y1o hb,ycs (iff_of_false ha hb)]; omega
theorem pieces (x y : Int) : x * y / 65536 = x * (y % 65536) / 65536 + x * (y / 65536 % 65536) + x * (y / 65536 / 65536) * 65536 := by
 have e : y = y % 65536 + (y / 65536 % 65536) * 65536 + (y / 65536 / 65536) * 4294967296 := by omega
 have f : x * y = x * (y % 65536) + x * (y / 65536 % 65536) * 65536 + x * (y / 65536 / 65536) * 4294967296 := by
  conv => lhs; rw [e,Int.mul_add,Int.mul_add,← Int.mul_assoc,← Int.mul_assoc]
 rw [f];generalize x * (y % 65536) = p;generalize x * (y / 65536 % 65536) = q;generalize x * (y / 65536 / 65536) = r;omega
theorem yd4 (hx : 0 ≤ x) (hx' : x ≤ 70368744177664) (hy : 0 ≤ y) (hy' : y ≤ 70368744177664) :
  (0 ≤ x * (y % 65536) ∧ x * (y % 65536) ≤ 4611615649683210240) ∧ (0 ≤ x * (y / 65536 % 65536) ∧ x * (y / 65536 % 65536) ≤ 4611615649683210240) ∧ (0 ≤ x * (y / 65536 / 65536) ∧ x * (y / 65536 / 65536) ≤ 1152921504606846976) :=
 ⟨⟨y1b hx (by omega),Int.mul_le_mul (c := 70368744177664) (d := 65535) hx' (by omega) (by omega) (by omega)⟩,
  ⟨y1b hx (by omega),Int.mul_le_mul (c := 70368744177664) (d := 65535) hx' (by omega) (by omega) (by omega)⟩,
  ⟨y1b hx (by omega),Int.mul_le_mul (c := 70368744177664) (d := 16384) hx' (by omega) (by omega) (by omega)⟩⟩
theorem yda : cut (x * (y % 65536) / 65536 + x * (y / 65536 % 65536) + x * (y / 65536 / 65536) * 65536) = cut (x * y / 65536) := by rw [pieces x y]
theorem ydn (hx : 0 ≤ x) (h : 2147483648 ≤ x * (y / 65536 / 65536)) : cut (x * y / 65536) = 70368744177664 := by
 have p1 : 0 ≤ x * (y % 65536) := y1b hx (by omega);have p2 : 0 ≤ x * (y / 65536 % 65536) := y1b hx (by omega);refine yky ?_;rw [pieces x y];generalize x * (y % 65536) = p at *;generalize x * (y / 65536 % 65536) = q at *;generalize x * (y / 65536 / 65536) = r at *;omega
def endless (a : Int) : Int := if 0 < a then 70368744177664 else if a < 0 then -70368744177664 else 0
def div (a b : Int) : Int := if cut b = 0 then endless (cut a) else cut ((65536 * cut a).tdiv (cut b))
theorem ygt (h : cut b = 0) : div a b = endless (cut a) := by unfold div; rw [if_pos h]
theorem ygq (h : cut b ≠ 0) : div a b = cut ((65536 * cut a).tdiv (cut b)) := by unfold div; rw [if_neg h]
theorem yad (hx : 0 ≤ x) (hx' : x ≤ 4611686018427387904) (hy : 1 ≤ y) : 0 ≤ x / y ∧ x / y ≤ 4611686018427387904 :=
 ⟨Int.ediv_nonneg hx (by omega),Int.le_trans (Int.ediv_le_self y hx) hx'⟩
theorem ya0 (a b : Int) : (65536 * a).tdiv b = sgn a * sgn b * (absI a * 65536 / absI b) := by
 by_cases ha : a < 0 <;> by_cases hb : b < 0
 ·rw [y1m ha,y1m hb,y2a ha,y2a hb,show 65536 * a = -(-a * 65536) by omega,show b = -(-b) by omega,Int.neg_tdiv_neg,Int.tdiv_eq_ediv_of_nonneg (by omega),Int.neg_neg]; omega
 ·rw [y1m ha,y1o hb,y2a ha,y21 hb,show 65536 * a = -(-a * 65536) by omega,Int.neg_tdiv,Int.tdiv_eq_ediv_of_nonneg (by omega)]; omega
 ·rw [y1o ha,y1m hb,y21 ha,y2a hb,show 65536 * a = a * 65536 by omega,show b = -(-b) by omega,Int.tdiv_neg,Int.tdiv_eq_ediv_of_nonneg (by omega),Int.neg_neg]; omega
 ·rw [y1o ha,y1o hb,y21 ha,y21 hb,show 65536 * a = a * 65536 by omega,Int.tdiv_eq_ediv_of_nonneg (by omega)]; omega
theorem sgn_cut (a b n : Int) : sgn a * sgn b * cut n = cut (sgn a * sgn b * n) := by
 by_cases ha : a < 0 <;> by_cases hb : b < 0
 ·rw [y1m ha,y1m hb,show (-1 : Int) * -1 * cut n = cut n by omega,show (-1 : Int) * -1 * n = n by omega]
 ·rw [y1m ha,y1o hb,show (-1 : Int) * 1 * cut n = -cut n by omega,show (-1 : Int) * 1 * n = -n by omega,y4a]
 ·rw [y1o ha,y1m hb,show (1 : Int) * -1 * cut n = -cut n by omega,show (1 : Int) * -1 * n = -n by omega,y4a]
 ·rw [y1o ha,y1o hb,show (1 : Int) * 1 * cut n = cut n by omega,show (1 : Int) * 1 * n = n by omega]
theorem yjo (h : cut b ≠ 0) : sgn (cut a) * sgn (cut b) * cut (absI (cut a) * 65536 / absI (cut b)) = div a b := by
 rw [ygq h,sgn_cut,ya0]
theorem y8s (a b : Int) : sgn a * sgn b = 1 ∨ sgn a * sgn b = -1 := by
 by_cases ha : a < 0 <;> by_cases hb : b < 0
 ·rw [y1m ha,y1m hb]; omega
 ·rw [y1m ha,y1o hb]; omega
 ·rw [y1o ha,y1m hb]; omega
 ·rw [y1o ha,y1o hb]; omega
theorem yg7 (h : -70368744177664 ≤ a) (k : a ≤ 70368744177664) (hb : b ≠ 0) : -4611686018427387904 ≤ (65536 * a).tdiv b ∧ (65536 * a).tdiv b ≤ 4611686018427387904 := by
 rw [ya0];have p := y8y h k;have q : 1 ≤ absI b := by unfold absI; split <;> omega
 have r := yad (x := absI a * 65536) (by omega) (by omega) q;rcases y8s a b with e | e
 ·rw [e]; omega
 ·rw [e]; omega
theorem absI_zero : absI n = 0 ↔ n = 0 := by unfold absI; split <;> omega
theorem ydj (h : absI n = 0) : endless n = 0 := by rw [absI_zero.1 h]; rfl
theorem yfm (h : absI n ≠ 0) : sgn n * 70368744177664 = endless n := by
 have k : n ≠ 0 := fun e => h (absI_zero.2 e);unfold sgn endless; repeat' split
 all_goals omega
def isq : Nat → Nat
 | 0 => 0
 | n + 1 => if (isq n + 1) * (isq n + 1) ≤ n + 1 then isq n + 1 else isq n
theorem isq_spec (n : Nat) : isq n * isq n ≤ n ∧ n < (isq n + 1) * (isq n + 1) := by
 induction n with
 | zero => exact ⟨Nat.le_refl _,by decide⟩
 | succ n ih =>
  unfold isq;split
  ·rename_i h
   refine ⟨h,?_⟩
   have e : (isq n + 1 + 1) * (isq n + 1 + 1) = (isq n + 1) * (isq n + 1) + 2 * isq n + 3 := by
    generalize isq n = r;rw [Nat.add_mul,Nat.mul_add]; omega
   omega
  ·omega
def root (n : Int) : Int := if cut n < 0 then 0 else (isq (65536 * cut n).toNat : Nat)
theorem y8k (h : 0 ≤ a) (k : a ≤ b) : a * a ≤ b * b := Int.mul_le_mul k k h (by omega)
theorem yew {q : Int} (r0 : 0 ≤ r) (r1 : r * r ≤ s) (r2 : s < (r + 1) * (r + 1)) (q0 : 0 ≤ q) (q1 : q * q ≤ s) (q2 : s < (q + 1) * (q + 1)) : r = q := by
 by_cases h : r < q
 ·have := y8k (a := r + 1) (b := q) (by omega) (by omega); omega
 ·by_cases k : q < r
  ·have := y8k (a := q + 1) (b := r) (by omega) (by omega); omega
  ·omega
theorem yf6 (h : 0 ≤ cut n) : 0 ≤ root n ∧ root n * root n ≤ 65536 * cut n ∧ 65536 * cut n < (root n + 1) * (root n + 1) := by
 unfold root;rw [if_neg (by omega)];obtain ⟨a,b⟩ := isq_spec (65536 * cut n).toNat;have e : ((65536 * cut n).toNat : Int) = 65536 * cut n := Int.toNat_of_nonneg (by omega);refine ⟨Int.natCast_nonneg _,?_,?_⟩
 ·rw [← Int.natCast_mul]; omega
 ·rw [show ((isq (65536 * cut n).toNat : Nat) : Int) + 1 = ((isq (65536 * cut n).toNat + 1 : Nat) : Int) from by omega,← Int.natCast_mul]; omega
theorem yca (h : cut n < 0) : root n = 0 := by unfold root; rw [if_pos h]
theorem yiz (h : 0 ≤ cut n) (r0 : 0 ≤ r) (r1 : r * r ≤ 65536 * cut n) (r2 : 65536 * cut n < (r + 1) * (r + 1)) : root n = r := by
 obtain ⟨a,b,c⟩ := yf6 h;exact yew a b c r0 r1 r2
theorem yjm (h : cut n = 0) : root n = 0 := yiz (by omega) (by omega) (by omega) (by omega)
theorem y2s (a b : Int) : -70368744177664 ≤ sub a b ∧ sub a b ≤ 70368744177664 := ⟨y1a _,y19 _⟩
theorem y2q (a b : Int) : -70368744177664 ≤ add a b ∧ add a b ≤ 70368744177664 := ⟨y1a _,y19 _⟩
theorem mid_sq (h0 : 0 ≤ l) (h2 : h ≤ 2147483648) (h3 : l < h) : 0 ≤ (l + h + 1) / 2 * ((l + h + 1) / 2) ∧ (l + h + 1) / 2 * ((l + h + 1) / 2) ≤ 4611686018427387904 :=
 ⟨y1b (by omega) (by omega),y8k (a := (l + h + 1) / 2) (b := 2147483648) (by omega) (by omega)⟩
def cl (k n : Int) : Int := if k < n then k else if n < -k then -k else n
theorem cl_hi (h : k < n) : cl k n = k := by unfold cl; rw [if_pos h]
theorem cl_lo (h : ¬ k < n) (g : n < -k) : cl k n = -k := by unfold cl; rw [if_neg h,if_pos g]
theorem y7y (h : ¬ k < n) (g : ¬ n < -k) : cl k n = n := by unfold cl; rw [if_neg h,if_neg g]
def bound (k : Int) : Int := if k < 0 then 0 else k
def dot (x y z x' y' z' : Int) : Int := add (add (mul x x') (mul y y')) (mul z z')
def long (x y z : Int) : Int := root (dot x y z x y z)
theorem y1p (n : Int) (w : World) : Calls Tryz.prog 126 #[I n] w fun e w' => e = .returned (I (cut n)) ∧ w' = w := by
 by_cases h1 : 70368744177664 < n
 ·rw [cut_hi h1]
  go_enter Tryz.func126,Tryz.ntmps126
  go_wp2
  go_ret
  exact ⟨rfl,rfl⟩
 ·by_cases h2 : n < -70368744177664
  ·rw [cut_lo h2]
   go_enter Tryz.func126,Tryz.ntmps126
   go_wp2
   go_ret
   exact ⟨rfl,rfl⟩
  ·rw [y0l (by omega) (by omega)]
   go_enter Tryz.func126,Tryz.ntmps126
   go_wp2
   go_ret
   exact ⟨rfl,rfl⟩
theorem y0w (n : Int) (w : World) : Calls Tryz.prog 136 #[I n] w fun e w' => e = .returned (I (cut n)) ∧ Kept w w' := by
 have hmf := hmfT;by_cases h1 : 70368744177664 < n
 ·rw [cut_hi h1]
  go_enter Tryz.func136,Tryz.ntmps136
  go_wp2
  go_ret
  exact ⟨rfl,(Kept.refl _).alloc _ _⟩
 ·by_cases h2 : n < -70368744177664
  ·rw [cut_lo h2]
   go_enter Tryz.func136,Tryz.ntmps136
   go_wp2
   go_ret
   exact ⟨rfl,(Kept.refl _).alloc _ _⟩
  ·rw [y0l (by omega) (by omega)]
   go_enter Tryz.func136,Tryz.ntmps136
   go_wp2
   go_ret
   exact ⟨rfl,(Kept.refl _).alloc _ _⟩
theorem kept_two {a b : World} (h : Kept a b) (k : Kept b c) : Kept a c := h.trans k
theorem y4r {a b d : World} (h : Kept a b) (k : Kept b c) (l : Kept c d) : Kept a d := (h.trans k).trans l
theorem y44 (a b : Int) (w : World) : Calls Tryz.prog 95 #[I a,I b] w fun e w' => e = .returned (I (add a b)) ∧ Kept w w' := by
 have a1 := y19 a; have a2 := y1a a; have b1 := y19 b; have b2 := y1a b;go_enter Tryz.func95,Tryz.ntmps95
 go_wp2_with fail
 refine (y0w _ _).mono ?_; rintro e w1 ⟨rfl,k1⟩;go_wp2_with fail
 refine (y0w _ _).mono ?_; rintro e w2 ⟨rfl,k2⟩;go_wp2_with fail
 refine (y0w _ _).mono ?_; rintro e w3 ⟨rfl,k3⟩;go_wp2_with fail
 go_ret
 exact ⟨rfl,y4r k1 k2 k3⟩
theorem y6a (a b : Int) (w : World) : Calls Tryz.prog 124 #[I a,I b] w fun e w' => e = .returned (I (sub a b)) ∧ Kept w w' := by
 have a1 := y19 a; have a2 := y1a a; have b1 := y19 b; have b2 := y1a b;go_enter Tryz.func124,Tryz.ntmps124
 go_wp2_with fail
 refine (y0w _ _).mono ?_; rintro e w1 ⟨rfl,k1⟩;go_wp2_with fail
 refine (y0w _ _).mono ?_; rintro e w2 ⟨rfl,k2⟩;go_wp2_with fail
 refine (y0w _ _).mono ?_; rintro e w3 ⟨rfl,k3⟩;go_wp2_with fail
 go_ret
 exact ⟨rfl,y4r k1 k2 k3⟩
theorem y1x (a b : Int) (w : World) : Calls Tryz.prog 78 #[I a,I b] w fun e w' => e = .returned (I (add a b)) ∧ w' = w := by
 have a1 := y19 a; have a2 := y1a a; have b1 := y19 b; have b2 := y1a b;go_enter Tryz.func78,Tryz.ntmps78
 go_wp2_with (go_at_call 126; refine (y1p _ _).mono ?_; rintro e w1 ⟨rfl,rfl⟩)
 go_ret
 exact ⟨rfl,rfl⟩
theorem y0x (a b : Int) (w : World) : Calls Tryz.prog 87 #[I a,I b] w fun e w' => e = .returned (I (sub a b)) ∧ w' = w := by
 have a1 := y19 a; have a2 := y1a a; have b1 := y19 b; have b2 := y1a b;go_enter Tryz.func87,Tryz.ntmps87
 go_wp2_with (go_at_call 126; refine (y1p _ _).mono ?_; rintro e w1 ⟨rfl,rfl⟩)
 go_ret
 exact ⟨rfl,rfl⟩
theorem ya6 (n : Int) (w : World) (h : -70368744177664 ≤ n) (k : n ≤ 70368744177664) : Calls Tryz.prog 155 #[I n] w fun e w' => e = .returned (.int .u64 (absI n)) ∧ w' = w := by
 by_cases c : n < 0
 ·rw [y2a c]
  go_enter Tryz.func155,Tryz.ntmps155
  go_wp2
  go_ret
  exact ⟨rfl,rfl⟩
 ·rw [y21 c]
  go_enter Tryz.func155,Tryz.ntmps155
  go_wp2
  go_ret
  exact ⟨rfl,rfl⟩
theorem y1i (n : Int) (w : World) : Calls Tryz.prog 128 #[I n] w fun e w' => e = .returned (.tuple #[.int .u64 (absI (cut n)),I (sgn (cut n))]) ∧ w' = w := by
 have a1 := y19 n; have a2 := y1a n;by_cases c : cut n < 0
 ·rw [y2a c,y1m c]
  go_enter Tryz.func128,Tryz.ntmps128
  go_wp2_with (go_at_call 126; refine (y1p _ _).mono ?_; rintro e w1 ⟨rfl,rfl⟩)
  go_ret2
  exact ⟨rfl,rfl⟩
 ·rw [y21 c,y1o c]
  go_enter Tryz.func128,Tryz.ntmps128
  go_wp2_with (go_at_call 126; refine (y1p _ _).mono ?_; rintro e w1 ⟨rfl,rfl⟩)
  go_ret2
  exact ⟨rfl,rfl⟩
theorem yb2 (a : Int) (w : World) : Calls Tryz.prog 153 #[I a] w fun e w' => e = .returned (I (endless a)) ∧ w' = w := by
 unfold endless;by_cases c : 0 < a
 ·rw [if_pos c]
  go_enter Tryz.func153,Tryz.ntmps153
  go_wp2
  go_ret
  exact ⟨rfl,rfl⟩
 ·rw [if_neg c]
  by_cases d : a < 0
  ·rw [if_pos d]
   go_enter Tryz.func153,Tryz.ntmps153
   go_wp2
   go_ret
   exact ⟨rfl,rfl⟩
  ·rw [if_neg d]
   go_enter Tryz.func153,Tryz.ntmps153
   go_wp2
   go_ret
   exact ⟨rfl,rfl⟩
open Go.ChangeShapes Go.WideShapes Go.ChangeAt Go.RowKit Go.Shelf
def mulRen : Go.Shelf.Ren := { f := fun n => if n = 264 then 154 else n,t := fun n => if n = 53 then 106 else if n = 46 then 164 else n,g := fun n => n }
theorem mulLays : Lays.n264 Tryz.prog mulRen := {
 mixed := by kernel_rfl
 f264 := by kernel_rfl
 t46 := by kernel_rfl
 a46 := fun _ => by kernel_rfl
 z46 := fun _ => by kernel_rfl
 v46 := fun _ => by kernel_rfl
 t53 := by kernel_rfl
 a53 := fun _ => by kernel_rfl
 z53 := fun _ => by kernel_rfl
 v53 := fun _ => by kernel_rfl }
theorem yiw (x y : Nat) (hx : x < 18446744073709551616) (hy : y < 18446744073709551616) (w : World) :
  Calls Tryz.prog 154 #[.int .u64 x,.int .u64 y] w fun e w' => e = .returned (.tuple #[.int .u64 ((x * y / 18446744073709551616 : Nat) : Int),.int .u64 ((x * y % 18446744073709551616 : Nat) : Int)]) ∧ w' = w :=
 Any.bits_Mul64 mulLays x y hx hy w
theorem yez (x y : Int) (w : World) (h : 0 ≤ x) (h' : x ≤ 70368744177664) (k : 0 ≤ y) (k' : y ≤ 70368744177664) :
  Calls Tryz.prog 154 #[.int .u64 x,.int .u64 y] w fun e w' => e = .returned (.tuple #[.int .u64 (hiI x y),.int .u64 (loI x y)]) ∧ w' = w := by
 obtain ⟨a,rfl⟩ := Int.eq_ofNat_of_zero_le h;obtain ⟨b,rfl⟩ := Int.eq_ofNat_of_zero_le k;refine (yiw a b (by omega) (by omega) w).mono ?_;rintro e w' ⟨rfl,rfl⟩;refine ⟨?_,rfl⟩;have e1 : ((a * b / 18446744073709551616 : Nat) : Int) = hiI a b := by unfold hiI; rw [← Int.natCast_mul]; rfl
 have e2 : ((a * b % 18446744073709551616 : Nat) : Int) = loI a b := by unfold loI; rw [← Int.natCast_mul]; rfl
 rw [e1,e2]
theorem y3d (a b : Int) (w : World) : Calls Tryz.prog 119 #[I a,I b] w fun e w' => e = .returned (I (mul a b)) ∧ Kept w w' := by
 have a1 := y19 a; have a2 := y1a a; have b1 := y19 b; have b2 := y1a b;obtain ⟨p1,p2⟩ := y33 a;obtain ⟨q1,q2⟩ := y33 b;have hlo := mul_lo (a := a) (b := b);have hhi := mul_hi (a := a) (b := b);have same := ycs (a := a) (b := b);have other := y7v (a := a) (b := b);obtain ⟨l1,l2⟩ := yji (absI (cut a)) (absI (cut b));obtain ⟨g1,g2⟩ := yk4 p1 p2 q1 q2;have l3 : loI (absI (cut a)) (absI (cut b)) / 65536 ≤ 281474976710655 := by omega
 by_cases ca : cut a < 0 <;> by_cases cb : cut b < 0 <;> by_cases z : hiI (absI (cut a)) (absI (cut b)) = 0
 all_goals
  first
  | (have F := same (iff_of_true ca cb); clear same other)
  | (have F := same (iff_of_false ca cb); clear same other)
  | (have F := other (iff_of_true ca cb); clear same other)
  | (have F := other (iff_of_false ca (fun h => h cb)); clear same other)
  first
  | (rw [← hlo z] at F; have z' : (hiI (absI (cut a)) (absI (cut b)) == 0) = true := by simpa using z)
  | (rw [hhi z] at F; have z' : (hiI (absI (cut a)) (absI (cut b)) == 0) = false := by simpa using z)
  clear hlo hhi z;have HF : Hid _ := F;clear F;first
  | (have da : decide (cut a < 0) = true := by simpa using ca)
  | (have da : decide (cut a < 0) = false := by simpa using ca)
  first
  | (have db : decide (cut b < 0) = true := by simpa using cb)
  | (have db : decide (cut b < 0) = false := by simpa using cb)
  go_enter Tryz.func119,Tryz.ntmps119
  go_wp2_with fail
  refine (y0w _ _).mono ?_; rintro e w1 ⟨rfl,k1⟩;go_wp2_with fail
  refine (y0w _ _).mono ?_; rintro e w2 ⟨rfl,k2⟩;go_wp2_with fail
  refine (ya6 _ _ (by omega) (by omega)).mono ?_; rintro e w3 ⟨rfl,rfl⟩;go_wp2_with fail
  refine (ya6 _ _ (by omega) (by omega)).mono ?_; rintro e w4 ⟨rfl,rfl⟩;go_wp2_with fail
  refine (yez _ _ _ (by omega) (by omega) (by omega) (by omega)).mono ?_; rintro e w5 ⟨rfl,rfl⟩;go_wp2_with fail
  refine (y0w _ _).mono ?_; rintro e w6 ⟨rfl,k6⟩;go_wp2_with fail
  go_ret
  refine ⟨y1n ?_,y4r k1 k2 k6⟩;first | exact HF.out.symm | exact (y4a _).trans HF.out.symm | exact cut_T.trans HF.out.symm | exact cut_nT.trans HF.out.symm
theorem y56 (a b n : Int) (h : -70368744177664 ≤ n) (k : n ≤ 70368744177664) : -70368744177664 ≤ sgn a * sgn b * n ∧ sgn a * sgn b * n ≤ 70368744177664 := by
 rcases y8s a b with e | e
 ·rw [e]; omega
 ·rw [e]; omega
theorem ya3 (a b : Int) : -1 ≤ sgn a * sgn b ∧ sgn a * sgn b ≤ 1 := by rcases y8s a b with e | e <;> omega
theorem y1c (a b : Int) (w : World) : Calls Tryz.prog 83 #[I a,I b] w fun e w' => e = .returned (I (mul a b)) ∧ w' = w := by
 obtain ⟨p1,p2⟩ := y33 a;obtain ⟨q1,q2⟩ := y33 b;have F := ykv a b;obtain ⟨⟨m1,m2⟩,⟨m3,m4⟩,m5,m6⟩ := yd4 p1 p2 q1 q2;obtain ⟨s1,s2⟩ := ya3 (cut a) (cut b);have small := yda (x := absI (cut a)) (y := absI (cut b));have great := ydn (x := absI (cut a)) (y := absI (cut b)) p1;obtain ⟨r1,r2⟩ := y56 (cut a) (cut b) (cut (absI (cut a) * absI (cut b) / 65536)) (y1a _) (y19 _);by_cases z : 2147483648 ≤ absI (cut a) * (absI (cut b) / 65536 / 65536)
 ·have y2 : 0 < absI (cut b) / 65536 / 65536 := by
   by_cases h : 0 < absI (cut b) / 65536 / 65536
   ·exact h
   ·have e : absI (cut b) / 65536 / 65536 = 0 := by omega
    rw [e] at z; omega
  rw [(great z).trans cut_T.symm] at F r1 r2;have HF : Hid _ := F;clear small great F;go_enter Tryz.func83,Tryz.ntmps83
  go_wp2_with fail
  refine (y1i _ _).mono ?_; rintro e w1 ⟨rfl,rfl⟩;go_wp2_with fail
  refine (y1i _ _).mono ?_; rintro e w1 ⟨rfl,rfl⟩;go_wp2_with fail
  refine (y1p _ _).mono ?_; rintro e w1 ⟨rfl,rfl⟩;go_wp2_with fail
  go_ret
  exact ⟨y1n HF.out,rfl⟩
 ·rw [← small] at F r1 r2
  have HF : Hid _ := F;have z2 : absI (cut a) * (absI (cut b) / 65536 / 65536) < 2147483648 := by omega
  clear small great F;have hd : decide (2147483648 ≤ absI (cut a) * (absI (cut b) / 65536 / 65536)) = false := by simpa using z2
  by_cases y2 : 0 < absI (cut b) / 65536 / 65536
  all_goals
   go_enter Tryz.func83,Tryz.ntmps83
   go_wp2_with fail
   refine (y1i _ _).mono ?_; rintro e w1 ⟨rfl,rfl⟩;go_wp2_with fail
   refine (y1i _ _).mono ?_; rintro e w1 ⟨rfl,rfl⟩;go_wp2_with fail
   refine (y1p _ _).mono ?_; rintro e w1 ⟨rfl,rfl⟩;go_wp2_with fail
   go_ret
   exact ⟨y1n HF.out,rfl⟩
theorem y4e (a b : Int) (w : World) : Calls Tryz.prog 118 #[I a,I b] w fun e w' => e = .returned (I (div a b)) ∧ Kept w w' := by
 have a1 := y19 a; have a2 := y1a a; have b1 := y19 b; have b2 := y1a b;by_cases z : cut b = 0
 ·have F := ygt (a := a) z
  have HF : Hid _ := F;have z' : (cut b == 0) = true := by simpa using z
  clear z F;go_enter Tryz.func118,Tryz.ntmps118
  go_wp2_with fail
  refine (y0w _ _).mono ?_; rintro e w1 ⟨rfl,k1⟩;go_wp2_with fail
  refine (y0w _ _).mono ?_; rintro e w2 ⟨rfl,k2⟩;go_wp2_with fail
  refine (yb2 _ _).mono ?_; rintro e w3 ⟨rfl,rfl⟩;go_wp2_with fail
  go_ret
  exact ⟨y1n HF.out.symm,kept_two k1 k2⟩
 ·have F := ygq (a := a) z
  have HF : Hid _ := F;have z' : (cut b == 0) = false := by simpa using z
  obtain ⟨t1,t2⟩ := yg7 a2 a1 z;clear F;go_enter Tryz.func118,Tryz.ntmps118
  go_wp2_with fail
  refine (y0w _ _).mono ?_; rintro e w1 ⟨rfl,k1⟩;go_wp2_with fail
  refine (y0w _ _).mono ?_; rintro e w2 ⟨rfl,k2⟩;go_wp2_with fail
  refine (y0w _ _).mono ?_; rintro e w3 ⟨rfl,k3⟩;go_wp2_with fail
  go_ret
  exact ⟨y1n HF.out.symm,y4r k1 k2 k3⟩
theorem sgn_one (a : Int) : -1 ≤ sgn a ∧ sgn a ≤ 1 := by unfold sgn; split <;> omega
theorem y2d (a b : Int) (w : World) : Calls Tryz.prog 84 #[I a,I b] w fun e w' => e = .returned (I (div a b)) ∧ w' = w := by
 obtain ⟨p1,p2⟩ := y33 a;obtain ⟨q1,q2⟩ := y33 b;obtain ⟨s1,s2⟩ := ya3 (cut a) (cut b);obtain ⟨o1,o2⟩ := sgn_one (cut a);by_cases z : absI (cut b) = 0
 ·have F := ygt (a := a) (absI_zero.1 z)
  have z' : (absI (cut b) == 0) = true := by simpa using z
  by_cases y : absI (cut a) = 0
  ·rw [ydj y] at F
   have y' : (absI (cut a) == 0) = true := by simpa using y
   have HF : Hid _ := F;clear F y z;go_enter Tryz.func84,Tryz.ntmps84
   go_wp2_with fail
   refine (y1i _ _).mono ?_; rintro e w1 ⟨rfl,rfl⟩;go_wp2_with fail
   refine (y1i _ _).mono ?_; rintro e w1 ⟨rfl,rfl⟩;go_wp2_with fail
   go_ret
   exact ⟨y1n HF.out.symm,rfl⟩
  ·rw [← yfm y] at F
   have y' : (absI (cut a) == 0) = false := by simpa using y
   have HF : Hid _ := F;clear F y z;go_enter Tryz.func84,Tryz.ntmps84
   go_wp2_with fail
   refine (y1i _ _).mono ?_; rintro e w1 ⟨rfl,rfl⟩;go_wp2_with fail
   refine (y1i _ _).mono ?_; rintro e w1 ⟨rfl,rfl⟩;go_wp2_with fail
   go_ret
   exact ⟨y1n HF.out.symm,rfl⟩
 ·have F := yjo (a := a) (b := b) (fun e => z (absI_zero.2 e))
  have z' : (absI (cut b) == 0) = false := by simpa using z
  have z1 : 1 ≤ absI (cut b) := by omega
  obtain ⟨t1,t2⟩ := yad (x := absI (cut a) * 65536) (by omega) (by omega) z1;obtain ⟨r1,r2⟩ := y56 (cut a) (cut b) (cut (absI (cut a) * 65536 / absI (cut b))) (y1a _) (y19 _);have HF : Hid _ := F;clear F z;go_enter Tryz.func84,Tryz.ntmps84
  go_wp2_with fail
  refine (y1i _ _).mono ?_; rintro e w1 ⟨rfl,rfl⟩;go_wp2_with fail
  refine (y1i _ _).mono ?_; rintro e w1 ⟨rfl,rfl⟩;go_wp2_with fail
  refine (y1p _ _).mono ?_; rintro e w1 ⟨rfl,rfl⟩;go_wp2_with fail
  go_ret
  exact ⟨y1n HF.out,rfl⟩
def Ends (s l h : Int) : Prop := 0 ≤ l ∧ l ≤ h ∧ h ≤ 2147483648 ∧ l * l ≤ s ∧ s < (h + 1) * (h + 1)
theorem yju (e : Ends s l h) (k : l < h) (m : (l + h + 1) / 2 * ((l + h + 1) / 2) ≤ s) : Ends s ((l + h + 1) / 2) h := by
 obtain ⟨a,b,c,d,f⟩ := e;exact ⟨by omega,by omega,c,m,f⟩
theorem yd5 (e : Ends s l h) (k : l < h) (m : ¬ (l + h + 1) / 2 * ((l + h + 1) / 2) ≤ s) : Ends s l ((l + h + 1) / 2 - 1) := by
 obtain ⟨a,b,c,d,f⟩ := e;refine ⟨a,by omega,by omega,d,?_⟩;rw [show (l + h + 1) / 2 - 1 + 1 = (l + h + 1) / 2 by omega]; omega
theorem ydy (p : 0 ≤ cut n) (e : Ends (65536 * cut n) l h) (k : ¬ l < h) : l = root n := by
 obtain ⟨a,b,c,d,f⟩ := e;have : h = l := by omega
 subst this;exact (yiz p a d f).symm
theorem yac (a : 0 ≤ s) (b : s ≤ 4611686018427387904) : Ends s 0 2147483648 := ⟨by omega,by omega,by omega,by omega,by omega⟩
theorem yh8 (n : Int) (w : World) : Calls Tryz.prog 157 #[I n] w fun e w' => e = .returned (I (root n)) ∧ Kept w w' := by
 have a1 := y19 n; have a2 := y1a n;by_cases p : cut n ≤ 0
 ·have F : root n = 0 := by
   by_cases q : cut n < 0
   ·exact yca q
   ·exact yjm (by omega)
  have HF : Hid _ := F;clear F;have q : 65536 * cut n ≤ 0 := by omega
  go_enter Tryz.func157,Tryz.ntmps157
  go_wp2_with fail
  refine (y0w _ _).mono ?_; rintro e w1 ⟨rfl,k1⟩;go_wp2_with fail
  go_ret
  exact ⟨y1n HF.out.symm,k1⟩
 ·have p0 : 0 < 65536 * cut n := by omega
  have p' : 0 ≤ cut n := by omega
  have hd : decide (65536 * cut n ≤ 0) = false := by simpa using p0
  go_enter Tryz.func157,Tryz.ntmps157
  go_wp2_with fail
  refine (y0w _ _).mono ?_; rintro e w1 ⟨rfl,k1⟩;go_wp2_with fail
  go_loop [4,5] (fun lo hi => ∃ l h : Int,Ends (65536 * cut n) l h ∧ lo = I l ∧ hi = I h) (fun lo hi => (intOf hi - intOf lo).toNat)
  case atStart => exact ⟨0,2147483648,yac (by omega) (by omega),rfl,rfl⟩
  case round =>
   obtain ⟨l,h,he,rfl,rfl⟩ := hrel;obtain ⟨h0,h1,h2,_,_⟩ := id he;by_cases k : l < h
   ·obtain ⟨m0,m1⟩ := mid_sq h0 h2 k
    by_cases m : (l + h + 1) / 2 * ((l + h + 1) / 2) ≤ 65536 * cut n
    ·have up := yju he k m
     go_wp2
     go_round
     case rel => exact ⟨_,_,up,rfl,rfl⟩
     case measure => simp [intOf]; omega
    ·have down := yd5 he k m
     go_wp2
     go_round
     case rel => exact ⟨_,_,down,rfl,rfl⟩
     case measure => simp [intOf]; omega
   ·have fin := ydy p' he k
    have HF : Hid _ := fin;clear fin;go_wp2
    go_ret
    exact ⟨y1n HF.out,k1⟩
theorem ybs (n : Int) (w : World) : Calls Tryz.prog 129 #[I n] w fun e w' => e = .returned (I (root n)) ∧ w' = w := by
 have a1 := y19 n; have a2 := y1a n;by_cases p : cut n < 0
 ·have F : root n = 0 := yca p
  have s1 : sgn (cut n) < 0 := by rw [y1m p]; omega
  have HF : Hid _ := F;clear F p;go_enter Tryz.func129,Tryz.ntmps129
  go_wp2_with fail
  refine (y1i _ _).mono ?_; rintro e w1 ⟨rfl,rfl⟩;go_wp2_with fail
  go_ret
  exact ⟨y1n HF.out.symm,rfl⟩
 ·have p' : 0 ≤ cut n := by omega
  have s1 : ¬ sgn (cut n) < 0 := by rw [y1o p]; omega
  have e1 : Hid (absI (cut n) = cut n) := y21 p;have hd : decide (sgn (cut n) < 0) = false := by simpa using s1
  go_enter Tryz.func129,Tryz.ntmps129
  go_wp2_with fail
  refine (y1i _ _).mono ?_; rintro e w1 ⟨rfl,rfl⟩;rw [e1.out];go_wp2_with fail
  go_loop [5,6] (fun lo hi => ∃ l h : Int,Ends (65536 * cut n) l h ∧ lo = .int .u64 l ∧ hi = .int .u64 h) (fun lo hi => (intOf hi - intOf lo).toNat)
  case atStart => exact ⟨0,2147483648,yac (by omega) (by omega),rfl,rfl⟩
  case round =>
   obtain ⟨l,h,he,rfl,rfl⟩ := hrel;obtain ⟨h0,h1,h2,_,_⟩ := id he;by_cases k : l < h
   ·obtain ⟨m0,m1⟩ := mid_sq h0 h2 k
    by_cases m : (l + h + 1) / 2 * ((l + h + 1) / 2) ≤ 65536 * cut n
    ·have up := yju he k m
     go_wp2
     go_round
     case rel => exact ⟨_,_,up,rfl,rfl⟩
     case measure => simp [intOf]; omega
    ·have down := yd5 he k m
     go_wp2
     go_round
     case rel => exact ⟨_,_,down,rfl,rfl⟩
     case measure => simp [intOf]; omega
   ·have fin := ydy p' he k
    have HF : Hid _ := fin;clear fin;go_wp2
    go_ret
    exact ⟨y1n HF.out,rfl⟩
end Go.Proofs.YtbenlgandjjopaaGreatDoor
