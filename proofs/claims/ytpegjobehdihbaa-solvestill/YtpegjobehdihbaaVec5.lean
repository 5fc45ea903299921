/- fx.Clamp and gyreref.Clamp answer the same: whatever the vector, and the bound. -/
import Derived.Test.YtpegjobehdihbaaVec4
namespace Go.Proofs.Ytpegjobehdihbaa
open Go.ChangeShapes Go.WideShapes Go.ChangeAt Go.RowKit

theorem clamp_neg (x y z k : Int) (w : World) (h : k < 0) :
    Calls Try.prog 5 #[.agg #[.int .i64 x, .int .i64 y, .int .i64 z], .int .i64 k] w fun e w' => e = .returned (.agg #[.int .i64 (cl 0 x), .int .i64 (cl 0 y), .int .i64 (cl 0 z)]) ∧ Kept w w' := by
  go_enter Try.func5, Try.ntmps5
  go_wp2
  go_region_held3 (fun w' => Kept w w' ∧ w'.cell? ⟨w.heap.size, 0, none⟩ = some (.int .i64 x) ∧ w'.cell? ⟨w.heap.size, 1, none⟩ = some (.int .i64 y) ∧ w'.cell? ⟨w.heap.size, 2, none⟩ = some (.int .i64 z) ∧ w'.cell? ⟨w.heap.size + 1, 0, none⟩ = some (cellV w' ⟨w.heap.size + 1, 0, none⟩) ∧ w'.cell? ⟨w.heap.size + 1, 1, none⟩ = some (cellV w' ⟨w.heap.size + 1, 1, none⟩) ∧ w'.cell? ⟨w.heap.size + 1, 2, none⟩ = some (cellV w' ⟨w.heap.size + 1, 2, none⟩) ∧ w'.frozen? ⟨w.heap.size + 1, 0, none⟩ = false ∧ w'.frozen? ⟨w.heap.size + 1, 1, none⟩ = false ∧ w'.frozen? ⟨w.heap.size + 1, 2, none⟩ = false)
    (first | (refine Room3o.step kk ?_; assumption) | exact Room3o.start .. | (refine Room3o.put 1 2 _ (by omega) (Room3o.put 1 1 _ (by omega) (Room3o.put 1 0 _ (by omega) ?_)); assumption))
    (first | (go_at_call 10; refine (within_calls _ _).mono ?_; rintro e w' ⟨p, rfl, kk, hpc⟩) | (go_at_call 9; refine (each_calls 17 p 0 (cl 0) (enters_of Try.func17 (by kernel_rfl) rfl) (fun n w' h => within1_calls p _ n w' (by omega) (by omega) h) x y z _ hpc).mono ?_; rintro e w' ⟨rfl, kk⟩))
  rename_i hh
  go_wp2
  obtain ⟨hk, _, _, _, c0, c1, c2, _⟩ := hh
  obtain ⟨e0, e1, e2⟩ := set3 c0 c1 c2
  clear c0 c1 c2
  exact bodyPost_ret (v := .agg #[.int .i64 (cl 0 x), .int .i64 (cl 0 y), .int .i64 (cl 0 z)]) (by simp [results, Try.results5, go_sem, e0, e1, e2]) rfl ⟨rfl, hk⟩
theorem clamp_pos (x y z k : Int) (w : World) (h : ¬ k < 0) (h' : k ≤ 9223372036854775807) :
    Calls Try.prog 5 #[.agg #[.int .i64 x, .int .i64 y, .int .i64 z], .int .i64 k] w fun e w' => e = .returned (.agg #[.int .i64 (cl k x), .int .i64 (cl k y), .int .i64 (cl k z)]) ∧ Kept w w' := by
  go_enter Try.func5, Try.ntmps5
  go_wp2
  go_region_held3 (fun w' => Kept w w' ∧ w'.cell? ⟨w.heap.size, 0, none⟩ = some (.int .i64 x) ∧ w'.cell? ⟨w.heap.size, 1, none⟩ = some (.int .i64 y) ∧ w'.cell? ⟨w.heap.size, 2, none⟩ = some (.int .i64 z) ∧ w'.cell? ⟨w.heap.size + 1, 0, none⟩ = some (cellV w' ⟨w.heap.size + 1, 0, none⟩) ∧ w'.cell? ⟨w.heap.size + 1, 1, none⟩ = some (cellV w' ⟨w.heap.size + 1, 1, none⟩) ∧ w'.cell? ⟨w.heap.size + 1, 2, none⟩ = some (cellV w' ⟨w.heap.size + 1, 2, none⟩) ∧ w'.frozen? ⟨w.heap.size + 1, 0, none⟩ = false ∧ w'.frozen? ⟨w.heap.size + 1, 1, none⟩ = false ∧ w'.frozen? ⟨w.heap.size + 1, 2, none⟩ = false)
    (first | (refine Room3o.step kk ?_; assumption) | exact Room3o.start .. | (refine Room3o.put 1 2 _ (by omega) (Room3o.put 1 1 _ (by omega) (Room3o.put 1 0 _ (by omega) ?_)); assumption))
    (first | (go_at_call 10; refine (within_calls _ _).mono ?_; rintro e w' ⟨p, rfl, kk, hpc⟩) | (go_at_call 9; refine (each_calls 17 p k (cl k) (enters_of Try.func17 (by kernel_rfl) rfl) (fun n w' h => within1_calls p _ n w' (by omega) (by omega) h) x y z _ hpc).mono ?_; rintro e w' ⟨rfl, kk⟩))
  rename_i hh
  go_wp2
  obtain ⟨hk, _, _, _, c0, c1, c2, _⟩ := hh
  obtain ⟨e0, e1, e2⟩ := set3 c0 c1 c2
  clear c0 c1 c2
  exact bodyPost_ret (v := .agg #[.int .i64 (cl k x), .int .i64 (cl k y), .int .i64 (cl k z)]) (by simp [results, Try.results5, go_sem, e0, e1, e2]) rfl ⟨rfl, hk⟩
end Go.Proofs.Ytpegjobehdihbaa
