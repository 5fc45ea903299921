/- fx's vectors answer, part by part, what Math.lean says: whatever the vectors. -/
import Derived.Test.YtpegjobehdihbaaRoots
import Derived.Test.YtpegjobehdihbaaPM
namespace Go.Proofs.Ytpegjobehdihbaa
open Go.ChangeShapes Go.WideShapes Go.ChangeAt Go.RowKit

theorem each_calls (fn : Nat) (p : Addr) (k : Int) (f : Int → Int) (he : ∀ args w, (callFunc fn args).run Try.prog w = .ok (.enter fn args) w)
    (hf : Hid (∀ n w', w'.cell? p = some (.int .i64 k) → Calls Try.prog fn #[.int .i64 n, .pointer (some p)] w' fun e w'' => e = .returned (.int .i64 (f n)) ∧ Kept w' w''))
    (x y z : Int) (w : World) (hp : w.cell? p = some (.int .i64 k)) :
    Calls Try.prog 9 #[.agg #[.int .i64 x, .int .i64 y, .int .i64 z], .func (.func fn) #[] #[.pointer (some p)]] w fun e w' => e = .returned (.agg #[.int .i64 (f x), .int .i64 (f y), .int .i64 (f z)]) ∧ Kept w w' := by
  have HP : Hid (w.cell? p = some (.int .i64 k)) := hp
  clear hp
  go_enter Try.func9, Try.ntmps9
  go_wp2
  go_region_held3 (fun w' => Kept w w' ∧ w'.cell? ⟨w.heap.size, 0, none⟩ = some (.int .i64 x) ∧ w'.cell? ⟨w.heap.size, 1, none⟩ = some (.int .i64 y) ∧ w'.cell? ⟨w.heap.size, 2, none⟩ = some (.int .i64 z) ∧ w'.cell? ⟨w.heap.size + 1, 0, none⟩ = some (cellV w' ⟨w.heap.size + 1, 0, none⟩) ∧ w'.cell? ⟨w.heap.size + 1, 1, none⟩ = some (cellV w' ⟨w.heap.size + 1, 1, none⟩) ∧ w'.cell? ⟨w.heap.size + 1, 2, none⟩ = some (cellV w' ⟨w.heap.size + 1, 2, none⟩) ∧ w'.frozen? ⟨w.heap.size + 1, 0, none⟩ = false ∧ w'.frozen? ⟨w.heap.size + 1, 1, none⟩ = false ∧ w'.frozen? ⟨w.heap.size + 1, 2, none⟩ = false)
    (first | (refine Room3o.step k ?_; assumption) | exact Room3o.start .. | (refine Room3o.put 1 2 _ (by omega) (Room3o.put 1 1 _ (by omega) (Room3o.put 1 0 _ (by omega) ?_)); assumption))
    (first | (go_at_fn fn; refine (hf.out _ _ (kept_cell (And.left (by assumption)) HP.out)).mono ?_; rintro e w' ⟨rfl, k⟩))
  rename_i hh
  go_wp2
  obtain ⟨hk, _, _, _, c0, c1, c2, _⟩ := hh
  obtain ⟨e0, e1, e2⟩ := set3 c0 c1 c2
  clear c0 c1 c2
  exact bodyPost_ret (v := .agg #[.int .i64 (f x), .int .i64 (f y), .int .i64 (f z)]) (by simp [results, Try.results9, go_sem, e0, e1, e2]) rfl ⟨rfl, hk⟩
end Go.Proofs.Ytpegjobehdihbaa
