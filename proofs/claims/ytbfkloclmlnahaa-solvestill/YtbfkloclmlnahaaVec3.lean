/- fx.Times, Dot, Long and gyreref's Plus, Minus, Times, Dot, Long answer what Math.lean says: whatever the vectors. -/
import Derived.Test.YtbfkloclmlnahaaVec2
import Derived.Shelf.Abstract
namespace Go.Proofs.Ytbfkloclmlnahaa
open Go.ChangeShapes Go.WideShapes Go.ChangeAt Go.RowKit

theorem times_calls (x y z k : Int) (w : World) :
    Calls Try.prog 30 #[.agg #[.int .i64 x, .int .i64 y, .int .i64 z], .int .i64 k] w fun e w' => e = .returned (.agg #[.int .i64 (mul x k), .int .i64 (mul y k), .int .i64 (mul z k)]) ∧ Kept w w' := by
  have hmf : ∀ (fn : Fn) (first cap : Array Value) (w : World), (Instr.makeFunc fn first cap).run Try.prog w = .ok (.func fn first cap) w := fun _ _ _ _ => rfl
  go_enter Try.func30, Try.ntmps30
  go_wp2_with fail
  refine (each_calls 82 _ k (fun n => mul n k) (enters_of Try.func82 (by kernel_rfl) rfl) (fun n w' h => times1_calls _ k n w' h) x y z _ (by go_simp)).mono ?_
  rintro e w1 ⟨rfl, k1⟩
  have c0 : w1.cell? ⟨w.heap.size + 1 + 1, 0, none⟩ = some (.int .i64 0) := kept_cell k1 (by go_simp)
  have c1 : w1.cell? ⟨w.heap.size + 1 + 1, 1, none⟩ = some (.int .i64 0) := kept_cell k1 (by go_simp)
  have c2 : w1.cell? ⟨w.heap.size + 1 + 1, 2, none⟩ = some (.int .i64 0) := kept_cell k1 (by go_simp)
  have f0 : w1.frozen? ⟨w.heap.size + 1 + 1, 0, none⟩ = false := kept_frozen k1 (by go_simp)
  have f1 : w1.frozen? ⟨w.heap.size + 1 + 1, 1, none⟩ = false := kept_frozen k1 (by go_simp)
  have f2 : w1.frozen? ⟨w.heap.size + 1 + 1, 2, none⟩ = false := kept_frozen k1 (by go_simp)
  go_wp2
  obtain ⟨e0, e1, e2⟩ := set3_of (v0 := .int .i64 (mul x k)) (v1 := .int .i64 (mul y k)) (v2 := .int .i64 (mul z k)) c0 c1 c2
  exact bodyPost_ret (v := .agg #[.int .i64 (mul x k), .int .i64 (mul y k), .int .i64 (mul z k)]) (by simp [results, Try.results30, go_sem, e0, e1, e2]) rfl
    ⟨rfl, kept_set3 (((((Kept.refl w).alloc _ _).alloc _ _).alloc _ _).trans k1) (by omega) _ _ _⟩

theorem refPlus_calls (x y z x' y' z' : Int) (w : World) :
    Calls Try.prog 27 #[.agg #[.int .i64 x, .int .i64 y, .int .i64 z], .agg #[.int .i64 x', .int .i64 y', .int .i64 z']] w fun e w' => e = .returned (.agg #[.int .i64 (add x x'), .int .i64 (add y y'), .int .i64 (add z z')]) ∧ Kept w w' := by
  go_enter Try.func27, Try.ntmps27
  go_wp2_with fail
  refine (refEach_bare 17 add (enters_of Try.func17 (by kernel_rfl) rfl) (fun n m w' => (refAdd_calls n m w').mono fun _ _ h => ⟨h.1, h.2 ▸ Kept.refl _⟩) x y z x' y' z' _).mono ?_
  rintro e w1 ⟨rfl, k1⟩
  have c0 : w1.cell? ⟨w.heap.size + 1 + 1, 0, none⟩ = some (.int .i64 0) := kept_cell k1 (by go_simp)
  have c1 : w1.cell? ⟨w.heap.size + 1 + 1, 1, none⟩ = some (.int .i64 0) := kept_cell k1 (by go_simp)
  have c2 : w1.cell? ⟨w.heap.size + 1 + 1, 2, none⟩ = some (.int .i64 0) := kept_cell k1 (by go_simp)
  have f0 : w1.frozen? ⟨w.heap.size + 1 + 1, 0, none⟩ = false := kept_frozen k1 (by go_simp)
  have f1 : w1.frozen? ⟨w.heap.size + 1 + 1, 1, none⟩ = false := kept_frozen k1 (by go_simp)
  have f2 : w1.frozen? ⟨w.heap.size + 1 + 1, 2, none⟩ = false := kept_frozen k1 (by go_simp)
  go_wp2
  obtain ⟨e0, e1, e2⟩ := set3_of (v0 := .int .i64 (add x x')) (v1 := .int .i64 (add y y')) (v2 := .int .i64 (add z z')) c0 c1 c2
  exact bodyPost_ret (v := .agg #[.int .i64 (add x x'), .int .i64 (add y y'), .int .i64 (add z z')]) (by simp [results, Try.results27, go_sem, e0, e1, e2]) rfl
    ⟨rfl, kept_set3 (((((Kept.refl w).alloc _ _).alloc _ _).alloc _ _).trans k1) (by omega) _ _ _⟩
theorem refMinus_calls (x y z x' y' z' : Int) (w : World) :
    Calls Try.prog 29 #[.agg #[.int .i64 x, .int .i64 y, .int .i64 z], .agg #[.int .i64 x', .int .i64 y', .int .i64 z']] w fun e w' => e = .returned (.agg #[.int .i64 (sub x x'), .int .i64 (sub y y'), .int .i64 (sub z z')]) ∧ Kept w w' := by
  go_enter Try.func29, Try.ntmps29
  go_wp2_with fail
  refine (refEach_bare 19 sub (enters_of Try.func19 (by kernel_rfl) rfl) (fun n m w' => (refSub_calls n m w').mono fun _ _ h => ⟨h.1, h.2 ▸ Kept.refl _⟩) x y z x' y' z' _).mono ?_
  rintro e w1 ⟨rfl, k1⟩
  have c0 : w1.cell? ⟨w.heap.size + 1 + 1, 0, none⟩ = some (.int .i64 0) := kept_cell k1 (by go_simp)
  have c1 : w1.cell? ⟨w.heap.size + 1 + 1, 1, none⟩ = some (.int .i64 0) := kept_cell k1 (by go_simp)
  have c2 : w1.cell? ⟨w.heap.size + 1 + 1, 2, none⟩ = some (.int .i64 0) := kept_cell k1 (by go_simp)
  have f0 : w1.frozen? ⟨w.heap.size + 1 + 1, 0, none⟩ = false := kept_frozen k1 (by go_simp)
  have f1 : w1.frozen? ⟨w.heap.size + 1 + 1, 1, none⟩ = false := kept_frozen k1 (by go_simp)
  have f2 : w1.frozen? ⟨w.heap.size + 1 + 1, 2, none⟩ = false := kept_frozen k1 (by go_simp)
  go_wp2
  obtain ⟨e0, e1, e2⟩ := set3_of (v0 := .int .i64 (sub x x')) (v1 := .int .i64 (sub y y')) (v2 := .int .i64 (sub z z')) c0 c1 c2
  exact bodyPost_ret (v := .agg #[.int .i64 (sub x x'), .int .i64 (sub y y'), .int .i64 (sub z z')]) (by simp [results, Try.results29, go_sem, e0, e1, e2]) rfl
    ⟨rfl, kept_set3 (((((Kept.refl w).alloc _ _).alloc _ _).alloc _ _).trans k1) (by omega) _ _ _⟩
theorem refTimes_calls (x y z k : Int) (w : World) :
    Calls Try.prog 31 #[.agg #[.int .i64 x, .int .i64 y, .int .i64 z], .int .i64 k] w fun e w' => e = .returned (.agg #[.int .i64 (mul x k), .int .i64 (mul y k), .int .i64 (mul z k)]) ∧ Kept w w' := by
  have hmf : ∀ (fn : Fn) (first cap : Array Value) (w : World), (Instr.makeFunc fn first cap).run Try.prog w = .ok (.func fn first cap) w := fun _ _ _ _ => rfl
  go_enter Try.func31, Try.ntmps31
  go_wp2_with fail
  refine (refEach_calls 83 _ k (fun n _ => mul n k) (enters_of Try.func83 (by kernel_rfl) rfl) (fun n m w' h => refTimes1_calls _ k n m w' h) x y z x y z _ (by go_simp)).mono ?_
  rintro e w1 ⟨rfl, k1⟩
  have c0 : w1.cell? ⟨w.heap.size + 1 + 1, 0, none⟩ = some (.int .i64 0) := kept_cell k1 (by go_simp)
  have c1 : w1.cell? ⟨w.heap.size + 1 + 1, 1, none⟩ = some (.int .i64 0) := kept_cell k1 (by go_simp)
  have c2 : w1.cell? ⟨w.heap.size + 1 + 1, 2, none⟩ = some (.int .i64 0) := kept_cell k1 (by go_simp)
  have f0 : w1.frozen? ⟨w.heap.size + 1 + 1, 0, none⟩ = false := kept_frozen k1 (by go_simp)
  have f1 : w1.frozen? ⟨w.heap.size + 1 + 1, 1, none⟩ = false := kept_frozen k1 (by go_simp)
  have f2 : w1.frozen? ⟨w.heap.size + 1 + 1, 2, none⟩ = false := kept_frozen k1 (by go_simp)
  go_wp2
  obtain ⟨e0, e1, e2⟩ := set3_of (v0 := .int .i64 (mul x k)) (v1 := .int .i64 (mul y k)) (v2 := .int .i64 (mul z k)) c0 c1 c2
  exact bodyPost_ret (v := .agg #[.int .i64 (mul x k), .int .i64 (mul y k), .int .i64 (mul z k)]) (by simp [results, Try.results31, go_sem, e0, e1, e2]) rfl
    ⟨rfl, kept_set3 (((((Kept.refl w).alloc _ _).alloc _ _).alloc _ _).trans k1) (by omega) _ _ _⟩
theorem dot_calls (x y z x' y' z' : Int) (w : World) :
    Calls Try.prog 32 #[.agg #[.int .i64 x, .int .i64 y, .int .i64 z], .agg #[.int .i64 x', .int .i64 y', .int .i64 z']] w fun e w' => e = .returned (.int .i64 (dot x y z x' y' z')) ∧ Kept w w' := by
  go_enter Try.func32, Try.ntmps32
  go_wp2
  go_region_held3 (fun w' => Kept w w' ∧ w'.cell? ⟨w.heap.size, 0, none⟩ = some (.int .i64 x) ∧ w'.cell? ⟨w.heap.size, 1, none⟩ = some (.int .i64 y) ∧ w'.cell? ⟨w.heap.size, 2, none⟩ = some (.int .i64 z) ∧ w'.cell? ⟨w.heap.size + 1, 0, none⟩ = some (.int .i64 x') ∧ w'.cell? ⟨w.heap.size + 1, 1, none⟩ = some (.int .i64 y') ∧ w'.cell? ⟨w.heap.size + 1, 2, none⟩ = some (.int .i64 z'))
    (first | (refine Room33.step k ?_; assumption) | exact Room33.start ..)
    (first | (go_at_call 20; refine (mul_calls _ _ _).mono ?_; rintro e w' ⟨rfl, k⟩) | (go_at_call 16; refine (add_calls _ _ _).mono ?_; rintro e w' ⟨rfl, k⟩))
  rename_i hh
  have hk := hh.1
  clear hh
  go_wp2
  go_ret
  exact ⟨rfl, hk⟩
theorem refDot_calls (x y z x' y' z' : Int) (w : World) :
    Calls Try.prog 33 #[.agg #[.int .i64 x, .int .i64 y, .int .i64 z], .agg #[.int .i64 x', .int .i64 y', .int .i64 z']] w fun e w' => e = .returned (.int .i64 (dot x y z x' y' z')) ∧ Kept w w' := by
  go_enter Try.func33, Try.ntmps33
  go_wp2_with (first | (go_at_call 21; refine (refMul_calls _ _ _).mono ?_; rintro e w' ⟨rfl, rfl⟩) | (go_at_call 17; refine (refAdd_calls _ _ _).mono ?_; rintro e w' ⟨rfl, rfl⟩))
  go_ret
  exact ⟨rfl, ((Kept.refl w).alloc _ _).alloc _ _⟩
theorem long_calls (x y z : Int) (w : World) :
    Calls Try.prog 34 #[.agg #[.int .i64 x, .int .i64 y, .int .i64 z]] w fun e w' => e = .returned (.int .i64 (long x y z)) ∧ Kept w w' := by
  go_enter Try.func34, Try.ntmps34
  go_wp2_with fail
  refine (dot_calls _ _ _ _ _ _ _).mono ?_; rintro e w1 ⟨rfl, k1⟩
  go_wp2_with fail
  refine (root_calls _ _).mono ?_; rintro e w2 ⟨rfl, k2⟩
  go_wp2_with fail
  go_ret
  exact ⟨rfl, (((Kept.refl w).alloc _ _).trans k1).trans k2⟩
theorem refLong_calls (x y z : Int) (w : World) :
    Calls Try.prog 35 #[.agg #[.int .i64 x, .int .i64 y, .int .i64 z]] w fun e w' => e = .returned (.int .i64 (long x y z)) ∧ Kept w w' := by
  go_enter Try.func35, Try.ntmps35
  go_wp2_with fail
  refine (refDot_calls _ _ _ _ _ _ _).mono ?_; rintro e w1 ⟨rfl, k1⟩
  go_wp2_with fail
  refine (refRoot_calls _ _).mono ?_; rintro e w2 ⟨rfl, rfl⟩
  go_wp2_with fail
  go_ret
  exact ⟨rfl, ((Kept.refl w).alloc _ _).trans k1⟩
end Go.Proofs.Ytbfkloclmlnahaa
