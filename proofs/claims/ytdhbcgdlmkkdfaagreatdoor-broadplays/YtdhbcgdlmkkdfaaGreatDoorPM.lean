/- fx.Plus and fx.Minus answer, part by part, what Math.lean says: whatever the vectors. -/
import Derived.Test.YtdhbcgdlmkkdfaaGreatDoorSmall
import Derived.Test.YtdhbcgdlmkkdfaaGreatDoorHeld
namespace Go.Proofs.YtdhbcgdlmkkdfaaGreatDoor
open Go.ChangeShapes Go.WideShapes Go.ChangeAt Go.RowKit

theorem plus_calls (x y z x' y' z' : Int) (w : World) :
    Calls Tryz.prog 34 #[.agg #[.int .i64 x, .int .i64 y, .int .i64 z], .agg #[.int .i64 x', .int .i64 y', .int .i64 z']] w fun e w' => e = .returned (.agg #[.int .i64 (add x x'), .int .i64 (add y y'), .int .i64 (add z z')]) ∧ Kept w w' := by
  go_enter Tryz.func34, Tryz.ntmps34
  go_wp2
  go_region_held3 (fun w' => Kept w w' ∧ w'.cell? ⟨w.heap.size, 0, none⟩ = some (.int .i64 x) ∧ w'.cell? ⟨w.heap.size, 1, none⟩ = some (.int .i64 y) ∧ w'.cell? ⟨w.heap.size, 2, none⟩ = some (.int .i64 z) ∧ w'.cell? ⟨w.heap.size + 1, 0, none⟩ = some (.int .i64 x') ∧ w'.cell? ⟨w.heap.size + 1, 1, none⟩ = some (.int .i64 y') ∧ w'.cell? ⟨w.heap.size + 1, 2, none⟩ = some (.int .i64 z') ∧ w'.cell? ⟨w.heap.size + 1 + 1, 0, none⟩ = some (cellV w' ⟨w.heap.size + 1 + 1, 0, none⟩) ∧ w'.cell? ⟨w.heap.size + 1 + 1, 1, none⟩ = some (cellV w' ⟨w.heap.size + 1 + 1, 1, none⟩) ∧ w'.cell? ⟨w.heap.size + 1 + 1, 2, none⟩ = some (cellV w' ⟨w.heap.size + 1 + 1, 2, none⟩) ∧ w'.frozen? ⟨w.heap.size + 1 + 1, 0, none⟩ = false ∧ w'.frozen? ⟨w.heap.size + 1 + 1, 1, none⟩ = false ∧ w'.frozen? ⟨w.heap.size + 1 + 1, 2, none⟩ = false)
    (first | (refine Room33o.step k ?_; assumption) | exact Room33o.start .. | (refine Room33o.put 2 2 _ (by omega) (Room33o.put 2 1 _ (by omega) (Room33o.put 2 0 _ (by omega) ?_)); assumption))
    (first | (go_at_call 48; refine (add_calls _ _ _).mono ?_; rintro e w' ⟨rfl, k⟩))
  rename_i hh
  go_wp2
  obtain ⟨hk, _, _, _, _, _, _, c0, c1, c2, _⟩ := hh
  obtain ⟨e0, e1, e2⟩ := set3 c0 c1 c2
  clear c0 c1 c2
  exact bodyPost_ret (v := .agg #[.int .i64 (add x x'), .int .i64 (add y y'), .int .i64 (add z z')]) (by simp [results, Tryz.results34, go_sem, e0, e1, e2]) rfl ⟨rfl, hk⟩
theorem minus_calls (x y z x' y' z' : Int) (w : World) :
    Calls Tryz.prog 33 #[.agg #[.int .i64 x, .int .i64 y, .int .i64 z], .agg #[.int .i64 x', .int .i64 y', .int .i64 z']] w fun e w' => e = .returned (.agg #[.int .i64 (sub x x'), .int .i64 (sub y y'), .int .i64 (sub z z')]) ∧ Kept w w' := by
  go_enter Tryz.func33, Tryz.ntmps33
  go_wp2
  go_region_held3 (fun w' => Kept w w' ∧ w'.cell? ⟨w.heap.size, 0, none⟩ = some (.int .i64 x) ∧ w'.cell? ⟨w.heap.size, 1, none⟩ = some (.int .i64 y) ∧ w'.cell? ⟨w.heap.size, 2, none⟩ = some (.int .i64 z) ∧ w'.cell? ⟨w.heap.size + 1, 0, none⟩ = some (.int .i64 x') ∧ w'.cell? ⟨w.heap.size + 1, 1, none⟩ = some (.int .i64 y') ∧ w'.cell? ⟨w.heap.size + 1, 2, none⟩ = some (.int .i64 z') ∧ w'.cell? ⟨w.heap.size + 1 + 1, 0, none⟩ = some (cellV w' ⟨w.heap.size + 1 + 1, 0, none⟩) ∧ w'.cell? ⟨w.heap.size + 1 + 1, 1, none⟩ = some (cellV w' ⟨w.heap.size + 1 + 1, 1, none⟩) ∧ w'.cell? ⟨w.heap.size + 1 + 1, 2, none⟩ = some (cellV w' ⟨w.heap.size + 1 + 1, 2, none⟩) ∧ w'.frozen? ⟨w.heap.size + 1 + 1, 0, none⟩ = false ∧ w'.frozen? ⟨w.heap.size + 1 + 1, 1, none⟩ = false ∧ w'.frozen? ⟨w.heap.size + 1 + 1, 2, none⟩ = false)
    (first | (refine Room33o.step k ?_; assumption) | exact Room33o.start .. | (refine Room33o.put 2 2 _ (by omega) (Room33o.put 2 1 _ (by omega) (Room33o.put 2 0 _ (by omega) ?_)); assumption))
    (first | (go_at_call 47; refine (sub_calls _ _ _).mono ?_; rintro e w' ⟨rfl, k⟩))
  rename_i hh
  go_wp2
  obtain ⟨hk, _, _, _, _, _, _, c0, c1, c2, _⟩ := hh
  obtain ⟨e0, e1, e2⟩ := set3 c0 c1 c2
  clear c0 c1 c2
  exact bodyPost_ret (v := .agg #[.int .i64 (sub x x'), .int .i64 (sub y y'), .int .i64 (sub z z')]) (by simp [results, Tryz.results33, go_sem, e0, e1, e2]) rfl ⟨rfl, hk⟩
end Go.Proofs.YtdhbcgdlmkkdfaaGreatDoor
