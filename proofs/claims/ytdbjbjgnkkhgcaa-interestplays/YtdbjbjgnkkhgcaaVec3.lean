/- fx.Times, Dot, Long and gyreref's Plus, Minus, Times, Dot, Long answer what Math.lean says: whatever the vectors. -/
import Derived.Test.YtdbjbjgnkkhgcaaVec2
import Derived.Shelf.Abstract
namespace Go.Proofs.Ytdbjbjgnkkhgcaa
open Go.ChangeShapes Go.WideShapes Go.ChangeAt Go.RowKit

theorem refPlus_calls (x y z x' y' z' : Int) (w : World) :
    Calls Try.prog 42 #[.agg #[.int .i64 x, .int .i64 y, .int .i64 z], .agg #[.int .i64 x', .int .i64 y', .int .i64 z']] w fun e w' => e = .returned (.agg #[.int .i64 (add x x'), .int .i64 (add y y'), .int .i64 (add z z')]) ∧ Kept w w' := by
  go_enter Try.func42, Try.ntmps42
  go_wp2_with fail
  refine (refEach_bare 63 add (enters_of Try.func63 (by kernel_rfl) rfl) (fun n m w' => (refAdd_calls n m w').mono fun _ _ h => ⟨h.1, h.2 ▸ Kept.refl _⟩) x y z x' y' z' _).mono ?_
  rintro e w1 ⟨rfl, k1⟩
  have c0 : w1.cell? ⟨w.heap.size + 1 + 1, 0, none⟩ = some (.int .i64 0) := kept_cell k1 (by go_simp)
  have c1 : w1.cell? ⟨w.heap.size + 1 + 1, 1, none⟩ = some (.int .i64 0) := kept_cell k1 (by go_simp)
  have c2 : w1.cell? ⟨w.heap.size + 1 + 1, 2, none⟩ = some (.int .i64 0) := kept_cell k1 (by go_simp)
  have f0 : w1.frozen? ⟨w.heap.size + 1 + 1, 0, none⟩ = false := kept_frozen k1 (by go_simp)
  have f1 : w1.frozen? ⟨w.heap.size + 1 + 1, 1, none⟩ = false := kept_frozen k1 (by go_simp)
  have f2 : w1.frozen? ⟨w.heap.size + 1 + 1, 2, none⟩ = false := kept_frozen k1 (by go_simp)
  go_wp2
  obtain ⟨e0, e1, e2⟩ := set3_of (v0 := .int .i64 (add x x')) (v1 := .int .i64 (add y y')) (v2 := .int .i64 (add z z')) c0 c1 c2
  exact bodyPost_ret (v := .agg #[.int .i64 (add x x'), .int .i64 (add y y'), .int .i64 (add z z')]) (by simp [results, Try.results42, go_sem, e0, e1, e2]) rfl
    ⟨rfl, kept_set3 (((((Kept.refl w).alloc _ _).alloc _ _).alloc _ _).trans k1) (by omega) _ _ _⟩
theorem refMinus_calls (x y z x' y' z' : Int) (w : World) :
    Calls Try.prog 41 #[.agg #[.int .i64 x, .int .i64 y, .int .i64 z], .agg #[.int .i64 x', .int .i64 y', .int .i64 z']] w fun e w' => e = .returned (.agg #[.int .i64 (sub x x'), .int .i64 (sub y y'), .int .i64 (sub z z')]) ∧ Kept w w' := by
  go_enter Try.func41, Try.ntmps41
  go_wp2_with fail
  refine (refEach_bare 62 sub (enters_of Try.func62 (by kernel_rfl) rfl) (fun n m w' => (refSub_calls n m w').mono fun _ _ h => ⟨h.1, h.2 ▸ Kept.refl _⟩) x y z x' y' z' _).mono ?_
  rintro e w1 ⟨rfl, k1⟩
  have c0 : w1.cell? ⟨w.heap.size + 1 + 1, 0, none⟩ = some (.int .i64 0) := kept_cell k1 (by go_simp)
  have c1 : w1.cell? ⟨w.heap.size + 1 + 1, 1, none⟩ = some (.int .i64 0) := kept_cell k1 (by go_simp)
  have c2 : w1.cell? ⟨w.heap.size + 1 + 1, 2, none⟩ = some (.int .i64 0) := kept_cell k1 (by go_simp)
  have f0 : w1.frozen? ⟨w.heap.size + 1 + 1, 0, none⟩ = false := kept_frozen k1 (by go_simp)
  have f1 : w1.frozen? ⟨w.heap.size + 1 + 1, 1, none⟩ = false := kept_frozen k1 (by go_simp)
  have f2 : w1.frozen? ⟨w.heap.size + 1 + 1, 2, none⟩ = false := kept_frozen k1 (by go_simp)
  go_wp2
  obtain ⟨e0, e1, e2⟩ := set3_of (v0 := .int .i64 (sub x x')) (v1 := .int .i64 (sub y y')) (v2 := .int .i64 (sub z z')) c0 c1 c2
  exact bodyPost_ret (v := .agg #[.int .i64 (sub x x'), .int .i64 (sub y y'), .int .i64 (sub z z')]) (by simp [results, Try.results41, go_sem, e0, e1, e2]) rfl
    ⟨rfl, kept_set3 (((((Kept.refl w).alloc _ _).alloc _ _).alloc _ _).trans k1) (by omega) _ _ _⟩
end Go.Proofs.Ytdbjbjgnkkhgcaa
