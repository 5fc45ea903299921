/- fx.Clamp and gyreref.Clamp answer the same: whatever the vector, and the bound. -/
import Derived.Test.YtdbjbjgnkkhgcaaVec4
namespace Go.Proofs.Ytdbjbjgnkkhgcaa
open Go.ChangeShapes Go.WideShapes Go.ChangeAt Go.RowKit

theorem clamp_neg (x y z k : Int) (w : World) (h : k < 0) :
    Calls Try.prog 28 #[.agg #[.int .i64 x, .int .i64 y, .int .i64 z], .int .i64 k] w fun e w' => e = .returned (.agg #[.int .i64 (cl 0 x), .int .i64 (cl 0 y), .int .i64 (cl 0 z)]) ∧ Kept w w' := by
  go_enter Try.func28, Try.ntmps28
  go_wp2
  go_region_held3 (fun w' => Kept w w' ∧ w'.cell? ⟨w.heap.size, 0, none⟩ = some (.int .i64 x) ∧ w'.cell? ⟨w.heap.size, 1, none⟩ = some (.int .i64 y) ∧ w'.cell? ⟨w.heap.size, 2, none⟩ = some (.int .i64 z) ∧ w'.cell? ⟨w.heap.size + 1, 0, none⟩ = some (cellV w' ⟨w.heap.size + 1, 0, none⟩) ∧ w'.cell? ⟨w.heap.size + 1, 1, none⟩ = some (cellV w' ⟨w.heap.size + 1, 1, none⟩) ∧ w'.cell? ⟨w.heap.size + 1, 2, none⟩ = some (cellV w' ⟨w.heap.size + 1, 2, none⟩) ∧ w'.frozen? ⟨w.heap.size + 1, 0, none⟩ = false ∧ w'.frozen? ⟨w.heap.size + 1, 1, none⟩ = false ∧ w'.frozen? ⟨w.heap.size + 1, 2, none⟩ = false)
    (first | (refine Room3o.step kk ?_; assumption) | exact Room3o.start .. | (refine Room3o.put 1 2 _ (by omega) (Room3o.put 1 1 _ (by omega) (Room3o.put 1 0 _ (by omega) ?_)); assumption))
    (first | (go_at_call 44; refine (within_calls _ _).mono ?_; rintro e w' ⟨p, rfl, kk, hpc⟩) | (go_at_call 43; refine (each_calls 64 p 0 (cl 0) (enters_of Try.func64 (by kernel_rfl) rfl) (fun n w' h => within1_calls p _ n w' (by omega) (by omega) h) x y z _ hpc).mono ?_; rintro e w' ⟨rfl, kk⟩))
  rename_i hh
  go_wp2
  obtain ⟨hk, _, _, _, c0, c1, c2, _⟩ := hh
  obtain ⟨e0, e1, e2⟩ := set3 c0 c1 c2
  clear c0 c1 c2
  exact bodyPost_ret (v := .agg #[.int .i64 (cl 0 x), .int .i64 (cl 0 y), .int .i64 (cl 0 z)]) (by simp [results, Try.results28, go_sem, e0, e1, e2]) rfl ⟨rfl, hk⟩
theorem clamp_pos (x y z k : Int) (w : World) (h : ¬ k < 0) (h' : k ≤ 9223372036854775807) :
    Calls Try.prog 28 #[.agg #[.int .i64 x, .int .i64 y, .int .i64 z], .int .i64 k] w fun e w' => e = .returned (.agg #[.int .i64 (cl k x), .int .i64 (cl k y), .int .i64 (cl k z)]) ∧ Kept w w' := by
  go_enter Try.func28, Try.ntmps28
  go_wp2
  go_region_held3 (fun w' => Kept w w' ∧ w'.cell? ⟨w.heap.size, 0, none⟩ = some (.int .i64 x) ∧ w'.cell? ⟨w.heap.size, 1, none⟩ = some (.int .i64 y) ∧ w'.cell? ⟨w.heap.size, 2, none⟩ = some (.int .i64 z) ∧ w'.cell? ⟨w.heap.size + 1, 0, none⟩ = some (cellV w' ⟨w.heap.size + 1, 0, none⟩) ∧ w'.cell? ⟨w.heap.size + 1, 1, none⟩ = some (cellV w' ⟨w.heap.size + 1, 1, none⟩) ∧ w'.cell? ⟨w.heap.size + 1, 2, none⟩ = some (cellV w' ⟨w.heap.size + 1, 2, none⟩) ∧ w'.frozen? ⟨w.heap.size + 1, 0, none⟩ = false ∧ w'.frozen? ⟨w.heap.size + 1, 1, none⟩ = false ∧ w'.frozen? ⟨w.heap.size + 1, 2, none⟩ = false)
    (first | (refine Room3o.step kk ?_; assumption) | exact Room3o.start .. | (refine Room3o.put 1 2 _ (by omega) (Room3o.put 1 1 _ (by omega) (Room3o.put 1 0 _ (by omega) ?_)); assumption))
    (first | (go_at_call 44; refine (within_calls _ _).mono ?_; rintro e w' ⟨p, rfl, kk, hpc⟩) | (go_at_call 43; refine (each_calls 64 p k (cl k) (enters_of Try.func64 (by kernel_rfl) rfl) (fun n w' h => within1_calls p _ n w' (by omega) (by omega) h) x y z _ hpc).mono ?_; rintro e w' ⟨rfl, kk⟩))
  rename_i hh
  go_wp2
  obtain ⟨hk, _, _, _, c0, c1, c2, _⟩ := hh
  obtain ⟨e0, e1, e2⟩ := set3 c0 c1 c2
  clear c0 c1 c2
  exact bodyPost_ret (v := .agg #[.int .i64 (cl k x), .int .i64 (cl k y), .int .i64 (cl k z)]) (by simp [results, Try.results28, go_sem, e0, e1, e2]) rfl ⟨rfl, hk⟩
theorem refClamp_neg (x y z k : Int) (w : World) (h : k < 0) :
    Calls Try.prog 5 #[.agg #[.int .i64 x, .int .i64 y, .int .i64 z], .int .i64 k] w fun e w' => e = .returned (.agg #[.int .i64 (cl 0 x), .int .i64 (cl 0 y), .int .i64 (cl 0 z)]) ∧ Kept w w' := by
  have hmf : ∀ (fn : Fn) (first cap : Array Value) (w : World), (Instr.makeFunc fn first cap).run Try.prog w = .ok (.func fn first cap) w := fun _ _ _ _ => rfl
  go_enter Try.func5, Try.ntmps5
  go_wp2_with fail
  refine (refEach_calls 14 _ 0 (fun n _ => cl 0 n) (enters_of Try.func14 (by kernel_rfl) rfl) (fun n m w' h => refClamp1_calls _ _ n m w' (by omega) (by omega) h) x y z x y z _ (by go_simp)).mono ?_
  rintro e w1 ⟨rfl, k1⟩
  have c0 : w1.cell? ⟨w.heap.size + 1 + 1, 0, none⟩ = some (.int .i64 0) := kept_cell k1 (by go_simp)
  have c1 : w1.cell? ⟨w.heap.size + 1 + 1, 1, none⟩ = some (.int .i64 0) := kept_cell k1 (by go_simp)
  have c2 : w1.cell? ⟨w.heap.size + 1 + 1, 2, none⟩ = some (.int .i64 0) := kept_cell k1 (by go_simp)
  have f0 : w1.frozen? ⟨w.heap.size + 1 + 1, 0, none⟩ = false := kept_frozen k1 (by go_simp)
  have f1 : w1.frozen? ⟨w.heap.size + 1 + 1, 1, none⟩ = false := kept_frozen k1 (by go_simp)
  have f2 : w1.frozen? ⟨w.heap.size + 1 + 1, 2, none⟩ = false := kept_frozen k1 (by go_simp)
  go_wp2
  obtain ⟨e0, e1, e2⟩ := set3_of (v0 := .int .i64 (cl 0 x)) (v1 := .int .i64 (cl 0 y)) (v2 := .int .i64 (cl 0 z)) c0 c1 c2
  exact bodyPost_ret (v := .agg #[.int .i64 (cl 0 x), .int .i64 (cl 0 y), .int .i64 (cl 0 z)]) (by simp [results, Try.results5, go_sem, e0, e1, e2]) rfl
    ⟨rfl, kept_set3 (((((Kept.refl w).alloc _ _).alloc _ _).alloc _ _).trans k1) (by omega) _ _ _⟩
theorem refClamp_pos (x y z k : Int) (w : World) (h : ¬ k < 0) (h' : k ≤ 9223372036854775807) :
    Calls Try.prog 5 #[.agg #[.int .i64 x, .int .i64 y, .int .i64 z], .int .i64 k] w fun e w' => e = .returned (.agg #[.int .i64 (cl k x), .int .i64 (cl k y), .int .i64 (cl k z)]) ∧ Kept w w' := by
  have hmf : ∀ (fn : Fn) (first cap : Array Value) (w : World), (Instr.makeFunc fn first cap).run Try.prog w = .ok (.func fn first cap) w := fun _ _ _ _ => rfl
  go_enter Try.func5, Try.ntmps5
  go_wp2_with fail
  refine (refEach_calls 14 _ k (fun n _ => cl k n) (enters_of Try.func14 (by kernel_rfl) rfl) (fun n m w' h => refClamp1_calls _ _ n m w' (by omega) (by omega) h) x y z x y z _ (by go_simp)).mono ?_
  rintro e w1 ⟨rfl, k1⟩
  have c0 : w1.cell? ⟨w.heap.size + 1 + 1, 0, none⟩ = some (.int .i64 0) := kept_cell k1 (by go_simp)
  have c1 : w1.cell? ⟨w.heap.size + 1 + 1, 1, none⟩ = some (.int .i64 0) := kept_cell k1 (by go_simp)
  have c2 : w1.cell? ⟨w.heap.size + 1 + 1, 2, none⟩ = some (.int .i64 0) := kept_cell k1 (by go_simp)
  have f0 : w1.frozen? ⟨w.heap.size + 1 + 1, 0, none⟩ = false := kept_frozen k1 (by go_simp)
  have f1 : w1.frozen? ⟨w.heap.size + 1 + 1, 1, none⟩ = false := kept_frozen k1 (by go_simp)
  have f2 : w1.frozen? ⟨w.heap.size + 1 + 1, 2, none⟩ = false := kept_frozen k1 (by go_simp)
  go_wp2
  obtain ⟨e0, e1, e2⟩ := set3_of (v0 := .int .i64 (cl k x)) (v1 := .int .i64 (cl k y)) (v2 := .int .i64 (cl k z)) c0 c1 c2
  exact bodyPost_ret (v := .agg #[.int .i64 (cl k x), .int .i64 (cl k y), .int .i64 (cl k z)]) (by simp [results, Try.results5, go_sem, e0, e1, e2]) rfl
    ⟨rfl, kept_set3 (((((Kept.refl w).alloc _ _).alloc _ _).alloc _ _).trans k1) (by omega) _ _ _⟩
end Go.Proofs.Ytdbjbjgnkkhgcaa
