/- gyreref.each, and the closures of fx and gyreref, answer what they are handed: whatever the numbers. -/
import Derived.Test.YtdbjbjgnkkhgcaaVec
namespace Go.Proofs.Ytdbjbjgnkkhgcaa
open Go.ChangeShapes Go.WideShapes Go.ChangeAt Go.RowKit

theorem refEach_calls (fn : Nat) (p : Addr) (k : Int) (f : Int → Int → Int) (he : ∀ args w, (callFunc fn args).run Try.prog w = .ok (.enter fn args) w)
    (hf : Hid (∀ n m w', w'.cell? p = some (.int .i64 k) → Calls Try.prog fn #[.int .i64 n, .int .i64 m, .pointer (some p)] w' fun e w'' => e = .returned (.int .i64 (f n m)) ∧ Kept w' w''))
    (x y z x' y' z' : Int) (w : World) (hp : w.cell? p = some (.int .i64 k)) :
    Calls Try.prog 13 #[.agg #[.int .i64 x, .int .i64 y, .int .i64 z], .agg #[.int .i64 x', .int .i64 y', .int .i64 z'], .func (.func fn) #[] #[.pointer (some p)]] w fun e w' => e = .returned (.agg #[.int .i64 (f x x'), .int .i64 (f y y'), .int .i64 (f z z')]) ∧ Kept w w' := by
  have HP : Hid (w.cell? p = some (.int .i64 k)) := hp
  clear hp
  go_enter Try.func13, Try.ntmps13
  go_wp2
  go_region_held3 (fun w' => Kept w w' ∧ w'.cell? ⟨w.heap.size, 0, none⟩ = some (.int .i64 x) ∧ w'.cell? ⟨w.heap.size, 1, none⟩ = some (.int .i64 y) ∧ w'.cell? ⟨w.heap.size, 2, none⟩ = some (.int .i64 z) ∧ w'.cell? ⟨w.heap.size + 1, 0, none⟩ = some (.int .i64 x') ∧ w'.cell? ⟨w.heap.size + 1, 1, none⟩ = some (.int .i64 y') ∧ w'.cell? ⟨w.heap.size + 1, 2, none⟩ = some (.int .i64 z') ∧ w'.cell? ⟨w.heap.size + 1 + 1, 0, none⟩ = some (cellV w' ⟨w.heap.size + 1 + 1, 0, none⟩) ∧ w'.cell? ⟨w.heap.size + 1 + 1, 1, none⟩ = some (cellV w' ⟨w.heap.size + 1 + 1, 1, none⟩) ∧ w'.cell? ⟨w.heap.size + 1 + 1, 2, none⟩ = some (cellV w' ⟨w.heap.size + 1 + 1, 2, none⟩) ∧ w'.frozen? ⟨w.heap.size + 1 + 1, 0, none⟩ = false ∧ w'.frozen? ⟨w.heap.size + 1 + 1, 1, none⟩ = false ∧ w'.frozen? ⟨w.heap.size + 1 + 1, 2, none⟩ = false)
    (first | (refine Room33o.step k ?_; assumption) | exact Room33o.start .. | (refine Room33o.put 2 2 _ (by omega) (Room33o.put 2 1 _ (by omega) (Room33o.put 2 0 _ (by omega) ?_)); assumption))
    (first | (go_at_fn fn; refine (hf.out _ _ _ (kept_cell (And.left (by assumption)) HP.out)).mono ?_; rintro e w' ⟨rfl, k⟩))
  rename_i hh
  go_wp2
  obtain ⟨hk, _, _, _, _, _, _, c0, c1, c2, _⟩ := hh
  obtain ⟨e0, e1, e2⟩ := set3 c0 c1 c2
  clear c0 c1 c2
  exact bodyPost_ret (v := .agg #[.int .i64 (f x x'), .int .i64 (f y y'), .int .i64 (f z z')]) (by simp [results, Try.results13, go_sem, e0, e1, e2]) rfl ⟨rfl, hk⟩

theorem refEach_bare (fn : Nat) (f : Int → Int → Int) (he : ∀ args w, (callFunc fn args).run Try.prog w = .ok (.enter fn args) w)
    (hf : Hid (∀ n m w', Calls Try.prog fn #[.int .i64 n, .int .i64 m] w' fun e w'' => e = .returned (.int .i64 (f n m)) ∧ Kept w' w''))
    (x y z x' y' z' : Int) (w : World) :
    Calls Try.prog 13 #[.agg #[.int .i64 x, .int .i64 y, .int .i64 z], .agg #[.int .i64 x', .int .i64 y', .int .i64 z'], .func (.func fn) #[] #[]] w fun e w' => e = .returned (.agg #[.int .i64 (f x x'), .int .i64 (f y y'), .int .i64 (f z z')]) ∧ Kept w w' := by
  go_enter Try.func13, Try.ntmps13
  go_wp2
  go_region_held3 (fun w' => Kept w w' ∧ w'.cell? ⟨w.heap.size, 0, none⟩ = some (.int .i64 x) ∧ w'.cell? ⟨w.heap.size, 1, none⟩ = some (.int .i64 y) ∧ w'.cell? ⟨w.heap.size, 2, none⟩ = some (.int .i64 z) ∧ w'.cell? ⟨w.heap.size + 1, 0, none⟩ = some (.int .i64 x') ∧ w'.cell? ⟨w.heap.size + 1, 1, none⟩ = some (.int .i64 y') ∧ w'.cell? ⟨w.heap.size + 1, 2, none⟩ = some (.int .i64 z') ∧ w'.cell? ⟨w.heap.size + 1 + 1, 0, none⟩ = some (cellV w' ⟨w.heap.size + 1 + 1, 0, none⟩) ∧ w'.cell? ⟨w.heap.size + 1 + 1, 1, none⟩ = some (cellV w' ⟨w.heap.size + 1 + 1, 1, none⟩) ∧ w'.cell? ⟨w.heap.size + 1 + 1, 2, none⟩ = some (cellV w' ⟨w.heap.size + 1 + 1, 2, none⟩) ∧ w'.frozen? ⟨w.heap.size + 1 + 1, 0, none⟩ = false ∧ w'.frozen? ⟨w.heap.size + 1 + 1, 1, none⟩ = false ∧ w'.frozen? ⟨w.heap.size + 1 + 1, 2, none⟩ = false)
    (first | (refine Room33o.step k ?_; assumption) | exact Room33o.start .. | (refine Room33o.put 2 2 _ (by omega) (Room33o.put 2 1 _ (by omega) (Room33o.put 2 0 _ (by omega) ?_)); assumption))
    (first | (go_at_fn fn; refine (hf.out _ _ _).mono ?_; rintro e w' ⟨rfl, k⟩))
  rename_i hh
  go_wp2
  obtain ⟨hk, _, _, _, _, _, _, c0, c1, c2, _⟩ := hh
  obtain ⟨e0, e1, e2⟩ := set3 c0 c1 c2
  clear c0 c1 c2
  exact bodyPost_ret (v := .agg #[.int .i64 (f x x'), .int .i64 (f y y'), .int .i64 (f z z')]) (by simp [results, Try.results13, go_sem, e0, e1, e2]) rfl ⟨rfl, hk⟩

theorem within1_calls (p : Addr) (k n : Int) (w : World) (k0 : 0 ≤ k) (k1 : k ≤ 9223372036854775807) (hp : w.cell? p = some (.int .i64 k)) :
    Calls Try.prog 64 #[.int .i64 n, .pointer (some p)] w fun e w' => e = .returned (.int .i64 (cl k n)) ∧ Kept w w' := by
  by_cases h1 : k < n
  · rw [cl_hi h1]
    go_enter Try.func64, Try.ntmps64
    go_wp2
    go_ret
    exact ⟨rfl, Kept.refl _⟩
  · by_cases h2 : n < -k
    · rw [cl_lo h1 h2]
      go_enter Try.func64, Try.ntmps64
      go_wp2
      go_ret
      exact ⟨rfl, Kept.refl _⟩
    · rw [cl_in h1 h2]
      go_enter Try.func64, Try.ntmps64
      go_wp2
      go_ret
      exact ⟨rfl, Kept.refl _⟩
theorem refClamp1_calls (p : Addr) (k n m : Int) (w : World) (k0 : 0 ≤ k) (k1 : k ≤ 9223372036854775807) (hp : w.cell? p = some (.int .i64 k)) :
    Calls Try.prog 14 #[.int .i64 n, .int .i64 m, .pointer (some p)] w fun e w' => e = .returned (.int .i64 (cl k n)) ∧ Kept w w' := by
  by_cases h1 : k < n
  · rw [cl_hi h1]
    go_enter Try.func14, Try.ntmps14
    go_wp2
    go_ret
    exact ⟨rfl, Kept.refl _⟩
  · by_cases h2 : n < -k
    · rw [cl_lo h1 h2]
      go_enter Try.func14, Try.ntmps14
      go_wp2
      go_ret
      exact ⟨rfl, Kept.refl _⟩
    · rw [cl_in h1 h2]
      go_enter Try.func14, Try.ntmps14
      go_wp2
      go_ret
      exact ⟨rfl, Kept.refl _⟩
end Go.Proofs.Ytdbjbjgnkkhgcaa
