/- fx.Unit, Clamp and gyreref's Unit, Clamp answer the same: whatever the vectors. -/
import Derived.Test.YtpegjobehdihbaaVec3
namespace Go.Proofs.Ytpegjobehdihbaa
open Go.ChangeShapes Go.WideShapes Go.ChangeAt Go.RowKit

theorem unit_none (x y z : Int) (w : World) (h : long x y z = 0) :
    Calls Try.prog 30 #[.agg #[.int .i64 x, .int .i64 y, .int .i64 z]] w fun e w' => e = .returned (.agg #[.int .i64 0, .int .i64 65536, .int .i64 0]) ∧ Kept w w' := by
  have HH : Hid (long x y z = 0) := h
  clear h
  go_enter Try.func30, Try.ntmps30
  go_wp2_with fail
  refine (long_calls _ _ _ _).mono ?_; rintro e w1 ⟨rfl, k1⟩
  rw [HH.out]
  have hz : w.heap.size + 1 < w1.heap.size := by have := k1.below.size; simp at this; omega
  have c0 : w1.cell? ⟨w.heap.size + 1, 0, none⟩ = some (.int .i64 0) := kept_cell k1 (by go_simp)
  have c1 : w1.cell? ⟨w.heap.size + 1, 1, none⟩ = some (.int .i64 0) := kept_cell k1 (by go_simp)
  have c2 : w1.cell? ⟨w.heap.size + 1, 2, none⟩ = some (.int .i64 0) := kept_cell k1 (by go_simp)
  have f0 : w1.frozen? ⟨w.heap.size + 1, 0, none⟩ = false := kept_frozen k1 (by go_simp)
  have f1 : w1.frozen? ⟨w.heap.size + 1, 1, none⟩ = false := kept_frozen k1 (by go_simp)
  have f2 : w1.frozen? ⟨w.heap.size + 1, 2, none⟩ = false := kept_frozen k1 (by go_simp)
  have c0' := later c0; have c1' := later c1; have c2' := later c2
  have f0' := laterF f0; have f1' := laterF f1; have f2' := laterF f2
  go_wp2
  obtain ⟨e0, e1, e2⟩ := set3_of (v0 := .int .i64 0) (v1 := .int .i64 65536) (v2 := .int .i64 0) c0 c1 c2
  have g0 := later e0; have g1 := later e1; have g2 := later e2
  exact bodyPost_ret (v := .agg #[.int .i64 0, .int .i64 65536, .int .i64 0]) (by simp [results, Try.results30, go_sem, g0, g1, g2]) rfl
    ⟨rfl, (kept_set3 ((((Kept.refl w).alloc _ _).alloc _ _).trans k1) (by omega) _ _ _).alloc _ _⟩
theorem unit_some (x y z : Int) (w : World) (h : (long x y z == 0) = false) :
    Calls Try.prog 30 #[.agg #[.int .i64 x, .int .i64 y, .int .i64 z]] w fun e w' => e = .returned (.agg #[.int .i64 (div x (long x y z)), .int .i64 (div y (long x y z)), .int .i64 (div z (long x y z))]) ∧ Kept w w' := by
  have hmf : ∀ (fn : Fn) (first cap : Array Value) (w : World), (Instr.makeFunc fn first cap).run Try.prog w = .ok (.func fn first cap) w := fun _ _ _ _ => rfl
  go_enter Try.func30, Try.ntmps30
  go_wp2_with fail
  refine (long_calls _ _ _ _).mono ?_; rintro e w1 ⟨rfl, k1⟩
  have hz : w.heap.size + 1 < w1.heap.size := by have := k1.below.size; simp at this; omega
  have b0 := later (kept_cell k1 (a := ⟨w.heap.size, 0, none⟩) (v := .int .i64 x) (by go_simp))
  have b1 := later (kept_cell k1 (a := ⟨w.heap.size, 1, none⟩) (v := .int .i64 y) (by go_simp))
  have b2 := later (kept_cell k1 (a := ⟨w.heap.size, 2, none⟩) (v := .int .i64 z) (by go_simp))
  have c0 : w1.cell? ⟨w.heap.size + 1, 0, none⟩ = some (.int .i64 0) := kept_cell k1 (by go_simp)
  have c1 : w1.cell? ⟨w.heap.size + 1, 1, none⟩ = some (.int .i64 0) := kept_cell k1 (by go_simp)
  have c2 : w1.cell? ⟨w.heap.size + 1, 2, none⟩ = some (.int .i64 0) := kept_cell k1 (by go_simp)
  have f0 : w1.frozen? ⟨w.heap.size + 1, 0, none⟩ = false := kept_frozen k1 (by go_simp)
  have f1 : w1.frozen? ⟨w.heap.size + 1, 1, none⟩ = false := kept_frozen k1 (by go_simp)
  have f2 : w1.frozen? ⟨w.heap.size + 1, 2, none⟩ = false := kept_frozen k1 (by go_simp)
  go_wp2_with fail
  refine (each_calls 41 _ (long x y z) (fun n => div n (long x y z)) (enters_of Try.func41 (by kernel_rfl) rfl) (fun n w' h => unit1_calls _ _ n w' h) x y z _ (by go_simp)).mono ?_
  rintro e w2 ⟨rfl, k2⟩
  replace c0 := kept_cell k2 (later c0 _)
  replace c1 := kept_cell k2 (later c1 _)
  replace c2 := kept_cell k2 (later c2 _)
  replace f0 := kept_frozen k2 (laterF f0 _ _)
  replace f1 := kept_frozen k2 (laterF f1 _ _)
  replace f2 := kept_frozen k2 (laterF f2 _ _)
  clear b0 b1 b2
  go_wp2
  obtain ⟨e0, e1, e2⟩ := set3_of (v0 := .int .i64 (div x (long x y z))) (v1 := .int .i64 (div y (long x y z))) (v2 := .int .i64 (div z (long x y z))) c0 c1 c2
  exact bodyPost_ret (v := .agg #[.int .i64 (div x (long x y z)), .int .i64 (div y (long x y z)), .int .i64 (div z (long x y z))]) (by simp [results, Try.results30, go_sem, e0, e1, e2]) rfl
    ⟨rfl, kept_set3 ((((((Kept.refl w).alloc _ _).alloc _ _).trans k1).alloc _ _).trans k2) (by omega) _ _ _⟩
theorem within_calls (k : Int) (w : World) :
    Calls Try.prog 10 #[.int .i64 k] w fun e w' => ∃ p, e = .returned (.func (.func 17) #[] #[.pointer (some p)]) ∧ Kept w w' ∧ w'.cell? p = some (.int .i64 k) := by
  have hmf : ∀ (fn : Fn) (first cap : Array Value) (w : World), (Instr.makeFunc fn first cap).run Try.prog w = .ok (.func fn first cap) w := fun _ _ _ _ => rfl
  go_enter Try.func10, Try.ntmps10
  go_wp2
  go_ret
  exact ⟨_, rfl, (Kept.refl _).alloc _ _, by go_simp⟩
end Go.Proofs.Ytpegjobehdihbaa
