/- fx.Times, Dot, Long and gyreref's Plus, Minus, Times, Dot, Long answer what Math.lean says: whatever the vectors. -/
import Derived.Test.YtpegjobehdihbaaVec2
import Derived.Shelf.Abstract
namespace Go.Proofs.Ytpegjobehdihbaa
open Go.ChangeShapes Go.WideShapes Go.ChangeAt Go.RowKit

theorem times_calls (x y z k : Int) (w : World) :
    Calls Try.prog 28 #[.agg #[.int .i64 x, .int .i64 y, .int .i64 z], .int .i64 k] w fun e w' => e = .returned (.agg #[.int .i64 (mul x k), .int .i64 (mul y k), .int .i64 (mul z k)]) ∧ Kept w w' := by
  have hmf : ∀ (fn : Fn) (first cap : Array Value) (w : World), (Instr.makeFunc fn first cap).run Try.prog w = .ok (.func fn first cap) w := fun _ _ _ _ => rfl
  go_enter Try.func28, Try.ntmps28
  go_wp2_with fail
  refine (each_calls 39 _ k (fun n => mul n k) (enters_of Try.func39 (by kernel_rfl) rfl) (fun n w' h => times1_calls _ k n w' h) x y z _ (by go_simp)).mono ?_
  rintro e w1 ⟨rfl, k1⟩
  have c0 : w1.cell? ⟨w.heap.size + 1 + 1, 0, none⟩ = some (.int .i64 0) := kept_cell k1 (by go_simp)
  have c1 : w1.cell? ⟨w.heap.size + 1 + 1, 1, none⟩ = some (.int .i64 0) := kept_cell k1 (by go_simp)
  have c2 : w1.cell? ⟨w.heap.size + 1 + 1, 2, none⟩ = some (.int .i64 0) := kept_cell k1 (by go_simp)
  have f0 : w1.frozen? ⟨w.heap.size + 1 + 1, 0, none⟩ = false := kept_frozen k1 (by go_simp)
  have f1 : w1.frozen? ⟨w.heap.size + 1 + 1, 1, none⟩ = false := kept_frozen k1 (by go_simp)
  have f2 : w1.frozen? ⟨w.heap.size + 1 + 1, 2, none⟩ = false := kept_frozen k1 (by go_simp)
  go_wp2
  obtain ⟨e0, e1, e2⟩ := set3_of (v0 := .int .i64 (mul x k)) (v1 := .int .i64 (mul y k)) (v2 := .int .i64 (mul z k)) c0 c1 c2
  exact bodyPost_ret (v := .agg #[.int .i64 (mul x k), .int .i64 (mul y k), .int .i64 (mul z k)]) (by simp [results, Try.results28, go_sem, e0, e1, e2]) rfl
    ⟨rfl, kept_set3 (((((Kept.refl w).alloc _ _).alloc _ _).alloc _ _).trans k1) (by omega) _ _ _⟩

theorem dot_calls (x y z x' y' z' : Int) (w : World) :
    Calls Try.prog 22 #[.agg #[.int .i64 x, .int .i64 y, .int .i64 z], .agg #[.int .i64 x', .int .i64 y', .int .i64 z']] w fun e w' => e = .returned (.int .i64 (dot x y z x' y' z')) ∧ Kept w w' := by
  go_enter Try.func22, Try.ntmps22
  go_wp2
  go_region_held3 (fun w' => Kept w w' ∧ w'.cell? ⟨w.heap.size, 0, none⟩ = some (.int .i64 x) ∧ w'.cell? ⟨w.heap.size, 1, none⟩ = some (.int .i64 y) ∧ w'.cell? ⟨w.heap.size, 2, none⟩ = some (.int .i64 z) ∧ w'.cell? ⟨w.heap.size + 1, 0, none⟩ = some (.int .i64 x') ∧ w'.cell? ⟨w.heap.size + 1, 1, none⟩ = some (.int .i64 y') ∧ w'.cell? ⟨w.heap.size + 1, 2, none⟩ = some (.int .i64 z'))
    (first | (refine Room33.step k ?_; assumption) | exact Room33.start ..)
    (first | (go_at_call 25; refine (mul_calls _ _ _).mono ?_; rintro e w' ⟨rfl, k⟩) | (go_at_call 21; refine (add_calls _ _ _).mono ?_; rintro e w' ⟨rfl, k⟩))
  rename_i hh
  have hk := hh.1
  clear hh
  go_wp2
  go_ret
  exact ⟨rfl, hk⟩
theorem long_calls (x y z : Int) (w : World) :
    Calls Try.prog 29 #[.agg #[.int .i64 x, .int .i64 y, .int .i64 z]] w fun e w' => e = .returned (.int .i64 (long x y z)) ∧ Kept w w' := by
  go_enter Try.func29, Try.ntmps29
  go_wp2_with fail
  refine (dot_calls _ _ _ _ _ _ _).mono ?_; rintro e w1 ⟨rfl, k1⟩
  go_wp2_with fail
  refine (root_calls _ _).mono ?_; rintro e w2 ⟨rfl, k2⟩
  go_wp2_with fail
  go_ret
  exact ⟨rfl, (((Kept.refl w).alloc _ _).trans k1).trans k2⟩
end Go.Proofs.Ytpegjobehdihbaa
