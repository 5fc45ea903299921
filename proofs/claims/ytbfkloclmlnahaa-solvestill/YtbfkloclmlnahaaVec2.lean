/- gyreref.each, and the closures of fx and gyreref, answer what they are handed: whatever the numbers. -/
import Derived.Test.YtbfkloclmlnahaaVec
namespace Go.Proofs.Ytbfkloclmlnahaa
open Go.ChangeShapes Go.WideShapes Go.ChangeAt Go.RowKit

theorem refEach_calls (fn : Nat) (p : Addr) (k : Int) (f : Int → Int → Int) (he : ∀ args w, (callFunc fn args).run Try.prog w = .ok (.enter fn args) w)
    (hf : Hid (∀ n m w', w'.cell? p = some (.int .i64 k) → Calls Try.prog fn #[.int .i64 n, .int .i64 m, .pointer (some p)] w' fun e w'' => e = .returned (.int .i64 (f n m)) ∧ Kept w' w''))
    (x y z x' y' z' : Int) (w : World) (hp : w.cell? p = some (.int .i64 k)) :
    Calls Try.prog 80 #[.agg #[.int .i64 x, .int .i64 y, .int .i64 z], .agg #[.int .i64 x', .int .i64 y', .int .i64 z'], .func (.func fn) #[] #[.pointer (some p)]] w fun e w' => e = .returned (.agg #[.int .i64 (f x x'), .int .i64 (f y y'), .int .i64 (f z z')]) ∧ Kept w w' := by
  have HP : Hid (w.cell? p = some (.int .i64 k)) := hp
  clear hp
  go_enter Try.func80, Try.ntmps80
  go_wp2
  go_region_held3 (fun w' => Kept w w' ∧ w'.cell? ⟨w.heap.size, 0, none⟩ = some (.int .i64 x) ∧ w'.cell? ⟨w.heap.size, 1, none⟩ = some (.int .i64 y) ∧ w'.cell? ⟨w.heap.size, 2, none⟩ = some (.int .i64 z) ∧ w'.cell? ⟨w.heap.size + 1, 0, none⟩ = some (.int .i64 x') ∧ w'.cell? ⟨w.heap.size + 1, 1, none⟩ = some (.int .i64 y') ∧ w'.cell? ⟨w.heap.size + 1, 2, none⟩ = some (.int .i64 z') ∧ w'.cell? ⟨w.heap.size + 1 + 1, 0, none⟩ = some (cellV w' ⟨w.heap.size + 1 + 1, 0, none⟩) ∧ w'.cell? ⟨w.heap.size + 1 + 1, 1, none⟩ = some (cellV w' ⟨w.heap.size + 1 + 1, 1, none⟩) ∧ w'.cell? ⟨w.heap.size + 1 + 1, 2, none⟩ = some (cellV w' ⟨w.heap.size + 1 + 1, 2, none⟩) ∧ w'.frozen? ⟨w.heap.size + 1 + 1, 0, none⟩ = false ∧ w'.frozen? ⟨w.heap.size + 1 + 1, 1, none⟩ = false ∧ w'.frozen? ⟨w.heap.size + 1 + 1, 2, none⟩ = false)
    (first | (refine Room33o.step k ?_; assumption) | exact Room33o.start .. | (refine Room33o.put 2 2 _ (by omega) (Room33o.put 2 1 _ (by omega) (Room33o.put 2 0 _ (by omega) ?_)); assumption))
    (first | (go_at_fn fn; refine (hf.out _ _ _ (kept_cell (And.left (by assumption)) HP.out)).mono ?_; rintro e w' ⟨rfl, k⟩))
  rename_i hh
  go_wp2
  obtain ⟨hk, _, _, _, _, _, _, c0, c1, c2, _⟩ := hh
  obtain ⟨e0, e1, e2⟩ := set3 c0 c1 c2
  clear c0 c1 c2
  exact bodyPost_ret (v := .agg #[.int .i64 (f x x'), .int .i64 (f y y'), .int .i64 (f z z')]) (by simp [results, Try.results80, go_sem, e0, e1, e2]) rfl ⟨rfl, hk⟩

theorem refEach_bare (fn : Nat) (f : Int → Int → Int) (he : ∀ args w, (callFunc fn args).run Try.prog w = .ok (.enter fn args) w)
    (hf : Hid (∀ n m w', Calls Try.prog fn #[.int .i64 n, .int .i64 m] w' fun e w'' => e = .returned (.int .i64 (f n m)) ∧ Kept w' w''))
    (x y z x' y' z' : Int) (w : World) :
    Calls Try.prog 80 #[.agg #[.int .i64 x, .int .i64 y, .int .i64 z], .agg #[.int .i64 x', .int .i64 y', .int .i64 z'], .func (.func fn) #[] #[]] w fun e w' => e = .returned (.agg #[.int .i64 (f x x'), .int .i64 (f y y'), .int .i64 (f z z')]) ∧ Kept w w' := by
  go_enter Try.func80, Try.ntmps80
  go_wp2
  go_region_held3 (fun w' => Kept w w' ∧ w'.cell? ⟨w.heap.size, 0, none⟩ = some (.int .i64 x) ∧ w'.cell? ⟨w.heap.size, 1, none⟩ = some (.int .i64 y) ∧ w'.cell? ⟨w.heap.size, 2, none⟩ = some (.int .i64 z) ∧ w'.cell? ⟨w.heap.size + 1, 0, none⟩ = some (.int .i64 x') ∧ w'.cell? ⟨w.heap.size + 1, 1, none⟩ = some (.int .i64 y') ∧ w'.cell? ⟨w.heap.size + 1, 2, none⟩ = some (.int .i64 z') ∧ w'.cell? ⟨w.heap.size + 1 + 1, 0, none⟩ = some (cellV w' ⟨w.heap.size + 1 + 1, 0, none⟩) ∧ w'.cell? ⟨w.heap.size + 1 + 1, 1, none⟩ = some (cellV w' ⟨w.heap.size + 1 + 1, 1, none⟩) ∧ w'.cell? ⟨w.heap.size + 1 + 1, 2, none⟩ = some (cellV w' ⟨w.heap.size + 1 + 1, 2, none⟩) ∧ w'.frozen? ⟨w.heap.size + 1 + 1, 0, none⟩ = false ∧ w'.frozen? ⟨w.heap.size + 1 + 1, 1, none⟩ = false ∧ w'.frozen? ⟨w.heap.size + 1 + 1, 2, none⟩ = false)
    (first | (refine Room33o.step k ?_; assumption) | exact Room33o.start .. | (refine Room33o.put 2 2 _ (by omega) (Room33o.put 2 1 _ (by omega) (Room33o.put 2 0 _ (by omega) ?_)); assumption))
    (first | (go_at_fn fn; refine (hf.out _ _ _).mono ?_; rintro e w' ⟨rfl, k⟩))
  rename_i hh
  go_wp2
  obtain ⟨hk, _, _, _, _, _, _, c0, c1, c2, _⟩ := hh
  obtain ⟨e0, e1, e2⟩ := set3 c0 c1 c2
  clear c0 c1 c2
  exact bodyPost_ret (v := .agg #[.int .i64 (f x x'), .int .i64 (f y y'), .int .i64 (f z z')]) (by simp [results, Try.results80, go_sem, e0, e1, e2]) rfl ⟨rfl, hk⟩

theorem times1_calls (p : Addr) (k n : Int) (w : World) (hp : w.cell? p = some (.int .i64 k)) :
    Calls Try.prog 82 #[.int .i64 n, .pointer (some p)] w fun e w' => e = .returned (.int .i64 (mul n k)) ∧ Kept w w' := by
  go_enter Try.func82, Try.ntmps82
  go_wp2_with (go_at_call 20; refine (mul_calls _ _ _).mono ?_; rintro e w1 ⟨rfl, k1⟩)
  go_ret
  exact ⟨rfl, k1⟩
theorem unit1_calls (p : Addr) (k n : Int) (w : World) (hp : w.cell? p = some (.int .i64 k)) :
    Calls Try.prog 84 #[.int .i64 n, .pointer (some p)] w fun e w' => e = .returned (.int .i64 (div n k)) ∧ Kept w w' := by
  go_enter Try.func84, Try.ntmps84
  go_wp2_with (go_at_call 22; refine (div_calls _ _ _).mono ?_; rintro e w1 ⟨rfl, k1⟩)
  go_ret
  exact ⟨rfl, k1⟩
theorem refTimes1_calls (p : Addr) (k n m : Int) (w : World) (hp : w.cell? p = some (.int .i64 k)) :
    Calls Try.prog 83 #[.int .i64 n, .int .i64 m, .pointer (some p)] w fun e w' => e = .returned (.int .i64 (mul n k)) ∧ Kept w w' := by
  go_enter Try.func83, Try.ntmps83
  go_wp2_with (go_at_call 21; refine (refMul_calls _ _ _).mono ?_; rintro e w1 ⟨rfl, rfl⟩)
  go_ret
  exact ⟨rfl, Kept.refl _⟩
theorem refUnit1_calls (p : Addr) (k n m : Int) (w : World) (hp : w.cell? p = some (.int .i64 k)) :
    Calls Try.prog 85 #[.int .i64 n, .int .i64 m, .pointer (some p)] w fun e w' => e = .returned (.int .i64 (div n k)) ∧ Kept w w' := by
  go_enter Try.func85, Try.ntmps85
  go_wp2_with (go_at_call 23; refine (refDiv_calls _ _ _).mono ?_; rintro e w1 ⟨rfl, rfl⟩)
  go_ret
  exact ⟨rfl, Kept.refl _⟩
theorem within1_calls (p : Addr) (k n : Int) (w : World) (k0 : 0 ≤ k) (k1 : k ≤ 9223372036854775807) (hp : w.cell? p = some (.int .i64 k)) :
    Calls Try.prog 123 #[.int .i64 n, .pointer (some p)] w fun e w' => e = .returned (.int .i64 (cl k n)) ∧ Kept w w' := by
  by_cases h1 : k < n
  · rw [cl_hi h1]
    go_enter Try.func123, Try.ntmps123
    go_wp2
    go_ret
    exact ⟨rfl, Kept.refl _⟩
  · by_cases h2 : n < -k
    · rw [cl_lo h1 h2]
      go_enter Try.func123, Try.ntmps123
      go_wp2
      go_ret
      exact ⟨rfl, Kept.refl _⟩
    · rw [cl_in h1 h2]
      go_enter Try.func123, Try.ntmps123
      go_wp2
      go_ret
      exact ⟨rfl, Kept.refl _⟩
theorem refClamp1_calls (p : Addr) (k n m : Int) (w : World) (k0 : 0 ≤ k) (k1 : k ≤ 9223372036854775807) (hp : w.cell? p = some (.int .i64 k)) :
    Calls Try.prog 86 #[.int .i64 n, .int .i64 m, .pointer (some p)] w fun e w' => e = .returned (.int .i64 (cl k n)) ∧ Kept w w' := by
  by_cases h1 : k < n
  · rw [cl_hi h1]
    go_enter Try.func86, Try.ntmps86
    go_wp2
    go_ret
    exact ⟨rfl, Kept.refl _⟩
  · by_cases h2 : n < -k
    · rw [cl_lo h1 h2]
      go_enter Try.func86, Try.ntmps86
      go_wp2
      go_ret
      exact ⟨rfl, Kept.refl _⟩
    · rw [cl_in h1 h2]
      go_enter Try.func86, Try.ntmps86
      go_wp2
      go_ret
      exact ⟨rfl, Kept.refl _⟩
end Go.Proofs.Ytbfkloclmlnahaa
