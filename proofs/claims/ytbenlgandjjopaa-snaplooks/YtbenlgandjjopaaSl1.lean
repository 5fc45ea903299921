/- snap.Look, gyreref.Look: a body as it is seen, in 256ths, rounded down: whatever its numbers. -/
import Derived.Test.YtbenlgandjjopaaHeld
import Derived.Shelf.Abstract
namespace Go.Proofs.Ytbenlgandjjopaa
open Go.ChangeShapes Go.WideShapes Go.ChangeAt Go.RowKit
set_option linter.unusedVariables false
set_option linter.unusedSimpArgs false

def In64 (x : Int) : Prop := -9223372036854775808 ≤ x ∧ x ≤ 9223372036854775807
def flX (n : Int) : Int := if n.tmod 256 < 0 then wrap64 (wrap64 (n.tdiv 256) - 1) else wrap64 (n.tdiv 256)
theorem tdiv256 (n : Int) : n.tdiv 256 = if n < 0 then -((-n) / 256) else n / 256 := by
  split
  · obtain ⟨m, rfl⟩ : ∃ m, n = -m := ⟨-n, by omega⟩
    rw [Int.neg_tdiv, Int.tdiv_eq_ediv_of_nonneg (by omega), Int.neg_neg]
  · rw [Int.tdiv_eq_ediv_of_nonneg (by omega)]
theorem flX_eq {n : Int} (h : In64 n) : flX n = n / 256 := by
  obtain ⟨h1, h2⟩ := h
  unfold flX
  rw [Int.tmod_def, tdiv256]
  unfold wrap64
  split <;> split <;> omega
theorem coarse_calls (x y z : Int) (w : World) :
    Calls Try.prog 32 #[.agg #[.int .i64 x, .int .i64 y, .int .i64 z]] w fun e w' => e = .returned (.agg #[.int .i64 (x / 256), .int .i64 (y / 256), .int .i64 (z / 256)]) ∧ Kept w w' := by
  go_enter Try.func32, Try.ntmps32
  go_wp2
  exact bodyPost_ret (v := .agg #[.int .i64 (x / 256), .int .i64 (y / 256), .int .i64 (z / 256)]) (by simp [results, Try.results32, go_sem]) rfl ⟨rfl, ((Kept.refl w).alloc _ _).alloc _ _⟩
theorem floor1_calls (n m : Int) (w : World) : Calls Try.prog 49 #[.int .i64 n, .int .i64 m] w fun e w' => e = .returned (.int .i64 (flX n)) ∧ Kept w w' := by
  go_enter Try.func49, Try.ntmps49
  go_wp2
  · have h : flX n = wrap64 (wrap64 (n.tdiv 256) - 1) := by unfold flX; rw [if_pos (by assumption)]
    go_ret
    exact ⟨ret_int h.symm, Kept.refl _⟩
  · have h : flX n = wrap64 (n.tdiv 256) := by unfold flX; rw [if_neg (by omega)]
    go_ret
    exact ⟨ret_int h.symm, Kept.refl _⟩
theorem refEachS (fn : Nat) (f : Int → Int → Int) (he : ∀ args w, (callFunc fn args).run Try.prog w = .ok (.enter fn args) w)
    (hf : Hid (∀ n m w', Calls Try.prog fn #[.int .i64 n, .int .i64 m] w' fun e w'' => e = .returned (.int .i64 (f n m)) ∧ Kept w' w''))
    (x y z x' y' z' : Int) (w : World) :
    Calls Try.prog 17 #[.agg #[.int .i64 x, .int .i64 y, .int .i64 z], .agg #[.int .i64 x', .int .i64 y', .int .i64 z'], .func (.func fn) #[] #[]] w fun e w' => e = .returned (.agg #[.int .i64 (f x x'), .int .i64 (f y y'), .int .i64 (f z z')]) ∧ Kept w w' := by
  go_enter Try.func17, Try.ntmps17
  go_wp2
  go_region_held3 (fun w' => Kept w w' ∧ w'.cell? ⟨w.heap.size, 0, none⟩ = some (.int .i64 x) ∧ w'.cell? ⟨w.heap.size, 1, none⟩ = some (.int .i64 y) ∧ w'.cell? ⟨w.heap.size, 2, none⟩ = some (.int .i64 z) ∧ w'.cell? ⟨w.heap.size + 1, 0, none⟩ = some (.int .i64 x') ∧ w'.cell? ⟨w.heap.size + 1, 1, none⟩ = some (.int .i64 y') ∧ w'.cell? ⟨w.heap.size + 1, 2, none⟩ = some (.int .i64 z') ∧ w'.cell? ⟨w.heap.size + 1 + 1, 0, none⟩ = some (cellV w' ⟨w.heap.size + 1 + 1, 0, none⟩) ∧ w'.cell? ⟨w.heap.size + 1 + 1, 1, none⟩ = some (cellV w' ⟨w.heap.size + 1 + 1, 1, none⟩) ∧ w'.cell? ⟨w.heap.size + 1 + 1, 2, none⟩ = some (cellV w' ⟨w.heap.size + 1 + 1, 2, none⟩) ∧ w'.frozen? ⟨w.heap.size + 1 + 1, 0, none⟩ = false ∧ w'.frozen? ⟨w.heap.size + 1 + 1, 1, none⟩ = false ∧ w'.frozen? ⟨w.heap.size + 1 + 1, 2, none⟩ = false)
    (first | (refine Room33o.step k ?_; assumption) | exact Room33o.start .. | (refine Room33o.put 2 2 _ (by omega) (Room33o.put 2 1 _ (by omega) (Room33o.put 2 0 _ (by omega) ?_)); assumption))
    (first | (go_at_fn fn; refine (hf.out _ _ _).mono ?_; rintro e w' ⟨rfl, k⟩))
  rename_i hh
  go_wp2
  obtain ⟨hk, _, _, _, _, _, _, c0, c1, c2, _⟩ := hh
  obtain ⟨e0, e1, e2⟩ := set3 c0 c1 c2
  clear c0 c1 c2
  exact bodyPost_ret (v := .agg #[.int .i64 (f x x'), .int .i64 (f y y'), .int .i64 (f z z')]) (by simp [results, Try.results17, go_sem, e0, e1, e2]) rfl ⟨rfl, hk⟩
theorem floor_calls (x y z : Int) (w : World) :
    Calls Try.prog 33 #[.agg #[.int .i64 x, .int .i64 y, .int .i64 z]] w fun e w' => e = .returned (.agg #[.int .i64 (flX x), .int .i64 (flX y), .int .i64 (flX z)]) ∧ Kept w w' := by
  go_enter Try.func33, Try.ntmps33
  go_wp2_with fail
  refine (refEachS 49 (fun n _ => flX n) (enters_of Try.func49 (by kernel_rfl) rfl) (fun n m w' => floor1_calls n m w') x y z x y z _).mono ?_
  rintro e w1 ⟨rfl, k1⟩
  have c0 : w1.cell? ⟨w.heap.size + 1, 0, none⟩ = some (.int .i64 0) := kept_cell k1 (by go_simp)
  have c1 : w1.cell? ⟨w.heap.size + 1, 1, none⟩ = some (.int .i64 0) := kept_cell k1 (by go_simp)
  have c2 : w1.cell? ⟨w.heap.size + 1, 2, none⟩ = some (.int .i64 0) := kept_cell k1 (by go_simp)
  have f0 : w1.frozen? ⟨w.heap.size + 1, 0, none⟩ = false := kept_frozen k1 (by go_simp)
  have f1 : w1.frozen? ⟨w.heap.size + 1, 1, none⟩ = false := kept_frozen k1 (by go_simp)
  have f2 : w1.frozen? ⟨w.heap.size + 1, 2, none⟩ = false := kept_frozen k1 (by go_simp)
  go_wp2
  obtain ⟨e0, e1, e2⟩ := set3_of (v0 := .int .i64 (flX x)) (v1 := .int .i64 (flX y)) (v2 := .int .i64 (flX z)) c0 c1 c2
  exact bodyPost_ret (v := .agg #[.int .i64 (flX x), .int .i64 (flX y), .int .i64 (flX z)]) (by simp [results, Try.results33, go_sem, e0, e1, e2]) rfl
    ⟨rfl, kept_set3 ((((Kept.refl w).alloc _ _).alloc _ _).trans k1) (by omega) _ _ _⟩
theorem set11_of {w : World} {b : Nat} {v0 v1 v2 v3 v4 v5 v6 v7 v8 v9 v10 u0 u1 u2 u3 u4 u5 u6 u7 u8 u9 u10 : Value} (h0 : w.cell? ⟨b, 0, none⟩ = some u0) (h1 : w.cell? ⟨b, 1, none⟩ = some u1) (h2 : w.cell? ⟨b, 2, none⟩ = some u2) (h3 : w.cell? ⟨b, 3, none⟩ = some u3) (h4 : w.cell? ⟨b, 4, none⟩ = some u4) (h5 : w.cell? ⟨b, 5, none⟩ = some u5) (h6 : w.cell? ⟨b, 6, none⟩ = some u6) (h7 : w.cell? ⟨b, 7, none⟩ = some u7) (h8 : w.cell? ⟨b, 8, none⟩ = some u8) (h9 : w.cell? ⟨b, 9, none⟩ = some u9) (h10 : w.cell? ⟨b, 10, none⟩ = some u10) :
    (((((((((((w.setCell ⟨b, 0, none⟩ v0).setCell ⟨b, 1, none⟩ v1).setCell ⟨b, 2, none⟩ v2).setCell ⟨b, 3, none⟩ v3).setCell ⟨b, 4, none⟩ v4).setCell ⟨b, 5, none⟩ v5).setCell ⟨b, 6, none⟩ v6).setCell ⟨b, 7, none⟩ v7).setCell ⟨b, 8, none⟩ v8).setCell ⟨b, 9, none⟩ v9).setCell ⟨b, 10, none⟩ v10).cell? ⟨b, 0, none⟩ = some v0 ∧ (((((((((((w.setCell ⟨b, 0, none⟩ v0).setCell ⟨b, 1, none⟩ v1).setCell ⟨b, 2, none⟩ v2).setCell ⟨b, 3, none⟩ v3).setCell ⟨b, 4, none⟩ v4).setCell ⟨b, 5, none⟩ v5).setCell ⟨b, 6, none⟩ v6).setCell ⟨b, 7, none⟩ v7).setCell ⟨b, 8, none⟩ v8).setCell ⟨b, 9, none⟩ v9).setCell ⟨b, 10, none⟩ v10).cell? ⟨b, 1, none⟩ = some v1 ∧ (((((((((((w.setCell ⟨b, 0, none⟩ v0).setCell ⟨b, 1, none⟩ v1).setCell ⟨b, 2, none⟩ v2).setCell ⟨b, 3, none⟩ v3).setCell ⟨b, 4, none⟩ v4).setCell ⟨b, 5, none⟩ v5).setCell ⟨b, 6, none⟩ v6).setCell ⟨b, 7, none⟩ v7).setCell ⟨b, 8, none⟩ v8).setCell ⟨b, 9, none⟩ v9).setCell ⟨b, 10, none⟩ v10).cell? ⟨b, 2, none⟩ = some v2 ∧ (((((((((((w.setCell ⟨b, 0, none⟩ v0).setCell ⟨b, 1, none⟩ v1).setCell ⟨b, 2, none⟩ v2).setCell ⟨b, 3, none⟩ v3).setCell ⟨b, 4, none⟩ v4).setCell ⟨b, 5, none⟩ v5).setCell ⟨b, 6, none⟩ v6).setCell ⟨b, 7, none⟩ v7).setCell ⟨b, 8, none⟩ v8).setCell ⟨b, 9, none⟩ v9).setCell ⟨b, 10, none⟩ v10).cell? ⟨b, 3, none⟩ = some v3 ∧ (((((((((((w.setCell ⟨b, 0, none⟩ v0).setCell ⟨b, 1, none⟩ v1).setCell ⟨b, 2, none⟩ v2).setCell ⟨b, 3, none⟩ v3).setCell ⟨b, 4, none⟩ v4).setCell ⟨b, 5, none⟩ v5).setCell ⟨b, 6, none⟩ v6).setCell ⟨b, 7, none⟩ v7).setCell ⟨b, 8, none⟩ v8).setCell ⟨b, 9, none⟩ v9).setCell ⟨b, 10, none⟩ v10).cell? ⟨b, 4, none⟩ = some v4 ∧ (((((((((((w.setCell ⟨b, 0, none⟩ v0).setCell ⟨b, 1, none⟩ v1).setCell ⟨b, 2, none⟩ v2).setCell ⟨b, 3, none⟩ v3).setCell ⟨b, 4, none⟩ v4).setCell ⟨b, 5, none⟩ v5).setCell ⟨b, 6, none⟩ v6).setCell ⟨b, 7, none⟩ v7).setCell ⟨b, 8, none⟩ v8).setCell ⟨b, 9, none⟩ v9).setCell ⟨b, 10, none⟩ v10).cell? ⟨b, 5, none⟩ = some v5 ∧ (((((((((((w.setCell ⟨b, 0, none⟩ v0).setCell ⟨b, 1, none⟩ v1).setCell ⟨b, 2, none⟩ v2).setCell ⟨b, 3, none⟩ v3).setCell ⟨b, 4, none⟩ v4).setCell ⟨b, 5, none⟩ v5).setCell ⟨b, 6, none⟩ v6).setCell ⟨b, 7, none⟩ v7).setCell ⟨b, 8, none⟩ v8).setCell ⟨b, 9, none⟩ v9).setCell ⟨b, 10, none⟩ v10).cell? ⟨b, 6, none⟩ = some v6 ∧ (((((((((((w.setCell ⟨b, 0, none⟩ v0).setCell ⟨b, 1, none⟩ v1).setCell ⟨b, 2, none⟩ v2).setCell ⟨b, 3, none⟩ v3).setCell ⟨b, 4, none⟩ v4).setCell ⟨b, 5, none⟩ v5).setCell ⟨b, 6, none⟩ v6).setCell ⟨b, 7, none⟩ v7).setCell ⟨b, 8, none⟩ v8).setCell ⟨b, 9, none⟩ v9).setCell ⟨b, 10, none⟩ v10).cell? ⟨b, 7, none⟩ = some v7 ∧ (((((((((((w.setCell ⟨b, 0, none⟩ v0).setCell ⟨b, 1, none⟩ v1).setCell ⟨b, 2, none⟩ v2).setCell ⟨b, 3, none⟩ v3).setCell ⟨b, 4, none⟩ v4).setCell ⟨b, 5, none⟩ v5).setCell ⟨b, 6, none⟩ v6).setCell ⟨b, 7, none⟩ v7).setCell ⟨b, 8, none⟩ v8).setCell ⟨b, 9, none⟩ v9).setCell ⟨b, 10, none⟩ v10).cell? ⟨b, 8, none⟩ = some v8 ∧ (((((((((((w.setCell ⟨b, 0, none⟩ v0).setCell ⟨b, 1, none⟩ v1).setCell ⟨b, 2, none⟩ v2).setCell ⟨b, 3, none⟩ v3).setCell ⟨b, 4, none⟩ v4).setCell ⟨b, 5, none⟩ v5).setCell ⟨b, 6, none⟩ v6).setCell ⟨b, 7, none⟩ v7).setCell ⟨b, 8, none⟩ v8).setCell ⟨b, 9, none⟩ v9).setCell ⟨b, 10, none⟩ v10).cell? ⟨b, 9, none⟩ = some v9 ∧ (((((((((((w.setCell ⟨b, 0, none⟩ v0).setCell ⟨b, 1, none⟩ v1).setCell ⟨b, 2, none⟩ v2).setCell ⟨b, 3, none⟩ v3).setCell ⟨b, 4, none⟩ v4).setCell ⟨b, 5, none⟩ v5).setCell ⟨b, 6, none⟩ v6).setCell ⟨b, 7, none⟩ v7).setCell ⟨b, 8, none⟩ v8).setCell ⟨b, 9, none⟩ v9).setCell ⟨b, 10, none⟩ v10).cell? ⟨b, 10, none⟩ = some v10 := by
  have n1 : ∀ i j : Nat, i ≠ j → (⟨b, i, none⟩ : Addr) ≠ ⟨b, j, none⟩ := fun i j h e => h (by injection e)
  exact ⟨(World.cell?_setCell_other _ _ _ _ (n1 10 0 (by decide))).trans ((World.cell?_setCell_other _ _ _ _ (n1 9 0 (by decide))).trans ((World.cell?_setCell_other _ _ _ _ (n1 8 0 (by decide))).trans ((World.cell?_setCell_other _ _ _ _ (n1 7 0 (by decide))).trans ((World.cell?_setCell_other _ _ _ _ (n1 6 0 (by decide))).trans ((World.cell?_setCell_other _ _ _ _ (n1 5 0 (by decide))).trans ((World.cell?_setCell_other _ _ _ _ (n1 4 0 (by decide))).trans ((World.cell?_setCell_other _ _ _ _ (n1 3 0 (by decide))).trans ((World.cell?_setCell_other _ _ _ _ (n1 2 0 (by decide))).trans ((World.cell?_setCell_other _ _ _ _ (n1 1 0 (by decide))).trans (World.cell?_setCell_same _ _ _ (h0))))))))))), (World.cell?_setCell_other _ _ _ _ (n1 10 1 (by decide))).trans ((World.cell?_setCell_other _ _ _ _ (n1 9 1 (by decide))).trans ((World.cell?_setCell_other _ _ _ _ (n1 8 1 (by decide))).trans ((World.cell?_setCell_other _ _ _ _ (n1 7 1 (by decide))).trans ((World.cell?_setCell_other _ _ _ _ (n1 6 1 (by decide))).trans ((World.cell?_setCell_other _ _ _ _ (n1 5 1 (by decide))).trans ((World.cell?_setCell_other _ _ _ _ (n1 4 1 (by decide))).trans ((World.cell?_setCell_other _ _ _ _ (n1 3 1 (by decide))).trans ((World.cell?_setCell_other _ _ _ _ (n1 2 1 (by decide))).trans (World.cell?_setCell_same _ _ _ ((World.cell?_setCell_other _ _ _ _ (n1 0 1 (by decide))).trans (h1))))))))))), (World.cell?_setCell_other _ _ _ _ (n1 10 2 (by decide))).trans ((World.cell?_setCell_other _ _ _ _ (n1 9 2 (by decide))).trans ((World.cell?_setCell_other _ _ _ _ (n1 8 2 (by decide))).trans ((World.cell?_setCell_other _ _ _ _ (n1 7 2 (by decide))).trans ((World.cell?_setCell_other _ _ _ _ (n1 6 2 (by decide))).trans ((World.cell?_setCell_other _ _ _ _ (n1 5 2 (by decide))).trans ((World.cell?_setCell_other _ _ _ _ (n1 4 2 (by decide))).trans ((World.cell?_setCell_other _ _ _ _ (n1 3 2 (by decide))).trans (World.cell?_setCell_same _ _ _ ((World.cell?_setCell_other _ _ _ _ (n1 1 2 (by decide))).trans ((World.cell?_setCell_other _ _ _ _ (n1 0 2 (by decide))).trans (h2))))))))))), (World.cell?_setCell_other _ _ _ _ (n1 10 3 (by decide))).trans ((World.cell?_setCell_other _ _ _ _ (n1 9 3 (by decide))).trans ((World.cell?_setCell_other _ _ _ _ (n1 8 3 (by decide))).trans ((World.cell?_setCell_other _ _ _ _ (n1 7 3 (by decide))).trans ((World.cell?_setCell_other _ _ _ _ (n1 6 3 (by decide))).trans ((World.cell?_setCell_other _ _ _ _ (n1 5 3 (by decide))).trans ((World.cell?_setCell_other _ _ _ _ (n1 4 3 (by decide))).trans (World.cell?_setCell_same _ _ _ ((World.cell?_setCell_other _ _ _ _ (n1 2 3 (by decide))).trans ((World.cell?_setCell_other _ _ _ _ (n1 1 3 (by decide))).trans ((World.cell?_setCell_other _ _ _ _ (n1 0 3 (by decide))).trans (h3))))))))))), (World.cell?_setCell_other _ _ _ _ (n1 10 4 (by decide))).trans ((World.cell?_setCell_other _ _ _ _ (n1 9 4 (by decide))).trans ((World.cell?_setCell_other _ _ _ _ (n1 8 4 (by decide))).trans ((World.cell?_setCell_other _ _ _ _ (n1 7 4 (by decide))).trans ((World.cell?_setCell_other _ _ _ _ (n1 6 4 (by decide))).trans ((World.cell?_setCell_other _ _ _ _ (n1 5 4 (by decide))).trans (World.cell?_setCell_same _ _ _ ((World.cell?_setCell_other _ _ _ _ (n1 3 4 (by decide))).trans ((World.cell?_setCell_other _ _ _ _ (n1 2 4 (by decide))).trans ((World.cell?_setCell_other _ _ _ _ (n1 1 4 (by decide))).trans ((World.cell?_setCell_other _ _ _ _ (n1 0 4 (by decide))).trans (h4))))))))))), (World.cell?_setCell_other _ _ _ _ (n1 10 5 (by decide))).trans ((World.cell?_setCell_other _ _ _ _ (n1 9 5 (by decide))).trans ((World.cell?_setCell_other _ _ _ _ (n1 8 5 (by decide))).trans ((World.cell?_setCell_other _ _ _ _ (n1 7 5 (by decide))).trans ((World.cell?_setCell_other _ _ _ _ (n1 6 5 (by decide))).trans (World.cell?_setCell_same _ _ _ ((World.cell?_setCell_other _ _ _ _ (n1 4 5 (by decide))).trans ((World.cell?_setCell_other _ _ _ _ (n1 3 5 (by decide))).trans ((World.cell?_setCell_other _ _ _ _ (n1 2 5 (by decide))).trans ((World.cell?_setCell_other _ _ _ _ (n1 1 5 (by decide))).trans ((World.cell?_setCell_other _ _ _ _ (n1 0 5 (by decide))).trans (h5))))))))))), (World.cell?_setCell_other _ _ _ _ (n1 10 6 (by decide))).trans ((World.cell?_setCell_other _ _ _ _ (n1 9 6 (by decide))).trans ((World.cell?_setCell_other _ _ _ _ (n1 8 6 (by decide))).trans ((World.cell?_setCell_other _ _ _ _ (n1 7 6 (by decide))).trans (World.cell?_setCell_same _ _ _ ((World.cell?_setCell_other _ _ _ _ (n1 5 6 (by decide))).trans ((World.cell?_setCell_other _ _ _ _ (n1 4 6 (by decide))).trans ((World.cell?_setCell_other _ _ _ _ (n1 3 6 (by decide))).trans ((World.cell?_setCell_other _ _ _ _ (n1 2 6 (by decide))).trans ((World.cell?_setCell_other _ _ _ _ (n1 1 6 (by decide))).trans ((World.cell?_setCell_other _ _ _ _ (n1 0 6 (by decide))).trans (h6))))))))))), (World.cell?_setCell_other _ _ _ _ (n1 10 7 (by decide))).trans ((World.cell?_setCell_other _ _ _ _ (n1 9 7 (by decide))).trans ((World.cell?_setCell_other _ _ _ _ (n1 8 7 (by decide))).trans (World.cell?_setCell_same _ _ _ ((World.cell?_setCell_other _ _ _ _ (n1 6 7 (by decide))).trans ((World.cell?_setCell_other _ _ _ _ (n1 5 7 (by decide))).trans ((World.cell?_setCell_other _ _ _ _ (n1 4 7 (by decide))).trans ((World.cell?_setCell_other _ _ _ _ (n1 3 7 (by decide))).trans ((World.cell?_setCell_other _ _ _ _ (n1 2 7 (by decide))).trans ((World.cell?_setCell_other _ _ _ _ (n1 1 7 (by decide))).trans ((World.cell?_setCell_other _ _ _ _ (n1 0 7 (by decide))).trans (h7))))))))))), (World.cell?_setCell_other _ _ _ _ (n1 10 8 (by decide))).trans ((World.cell?_setCell_other _ _ _ _ (n1 9 8 (by decide))).trans (World.cell?_setCell_same _ _ _ ((World.cell?_setCell_other _ _ _ _ (n1 7 8 (by decide))).trans ((World.cell?_setCell_other _ _ _ _ (n1 6 8 (by decide))).trans ((World.cell?_setCell_other _ _ _ _ (n1 5 8 (by decide))).trans ((World.cell?_setCell_other _ _ _ _ (n1 4 8 (by decide))).trans ((World.cell?_setCell_other _ _ _ _ (n1 3 8 (by decide))).trans ((World.cell?_setCell_other _ _ _ _ (n1 2 8 (by decide))).trans ((World.cell?_setCell_other _ _ _ _ (n1 1 8 (by decide))).trans ((World.cell?_setCell_other _ _ _ _ (n1 0 8 (by decide))).trans (h8))))))))))), (World.cell?_setCell_other _ _ _ _ (n1 10 9 (by decide))).trans (World.cell?_setCell_same _ _ _ ((World.cell?_setCell_other _ _ _ _ (n1 8 9 (by decide))).trans ((World.cell?_setCell_other _ _ _ _ (n1 7 9 (by decide))).trans ((World.cell?_setCell_other _ _ _ _ (n1 6 9 (by decide))).trans ((World.cell?_setCell_other _ _ _ _ (n1 5 9 (by decide))).trans ((World.cell?_setCell_other _ _ _ _ (n1 4 9 (by decide))).trans ((World.cell?_setCell_other _ _ _ _ (n1 3 9 (by decide))).trans ((World.cell?_setCell_other _ _ _ _ (n1 2 9 (by decide))).trans ((World.cell?_setCell_other _ _ _ _ (n1 1 9 (by decide))).trans ((World.cell?_setCell_other _ _ _ _ (n1 0 9 (by decide))).trans (h9))))))))))), World.cell?_setCell_same _ _ _ ((World.cell?_setCell_other _ _ _ _ (n1 9 10 (by decide))).trans ((World.cell?_setCell_other _ _ _ _ (n1 8 10 (by decide))).trans ((World.cell?_setCell_other _ _ _ _ (n1 7 10 (by decide))).trans ((World.cell?_setCell_other _ _ _ _ (n1 6 10 (by decide))).trans ((World.cell?_setCell_other _ _ _ _ (n1 5 10 (by decide))).trans ((World.cell?_setCell_other _ _ _ _ (n1 4 10 (by decide))).trans ((World.cell?_setCell_other _ _ _ _ (n1 3 10 (by decide))).trans ((World.cell?_setCell_other _ _ _ _ (n1 2 10 (by decide))).trans ((World.cell?_setCell_other _ _ _ _ (n1 1 10 (by decide))).trans ((World.cell?_setCell_other _ _ _ _ (n1 0 10 (by decide))).trans (h10)))))))))))⟩
theorem kept_set11 {w w1 : World} {b : Nat} (k : Kept w w1) (h : w.heap.size ≤ b) (v0 v1 v2 v3 v4 v5 v6 v7 v8 v9 v10 : Value) : Kept w (((((((((((w1.setCell ⟨b, 0, none⟩ v0).setCell ⟨b, 1, none⟩ v1).setCell ⟨b, 2, none⟩ v2).setCell ⟨b, 3, none⟩ v3).setCell ⟨b, 4, none⟩ v4).setCell ⟨b, 5, none⟩ v5).setCell ⟨b, 6, none⟩ v6).setCell ⟨b, 7, none⟩ v7).setCell ⟨b, 8, none⟩ v8).setCell ⟨b, 9, none⟩ v9).setCell ⟨b, 10, none⟩ v10) :=
  (((((((((((k.setCell (p := ⟨b, 0, none⟩) h v0).setCell (p := ⟨b, 1, none⟩) h v1).setCell (p := ⟨b, 2, none⟩) h v2).setCell (p := ⟨b, 3, none⟩) h v3).setCell (p := ⟨b, 4, none⟩) h v4).setCell (p := ⟨b, 5, none⟩) h v5).setCell (p := ⟨b, 6, none⟩) h v6).setCell (p := ⟨b, 7, none⟩) h v7).setCell (p := ⟨b, 8, none⟩) h v8).setCell (p := ⟨b, 9, none⟩) h v9).setCell (p := ⟨b, 10, none⟩) h v10)

def GL (w : World) (b0 b1 : Nat) (v0 v1 v2 v3 v4 v5 v6 v7 v8 v9 v10 v11 v12 v13 v14 v15 v16 : Value) (w' : World) : Prop :=
  Kept w w' ∧
  w'.cell? ⟨b0, 0, none⟩ = some v0 ∧
  w'.cell? ⟨b0, 1, none⟩ = some v1 ∧
  w'.cell? ⟨b0, 2, none⟩ = some v2 ∧
  w'.cell? ⟨b0, 3, none⟩ = some v3 ∧
  w'.cell? ⟨b0, 4, none⟩ = some v4 ∧
  w'.cell? ⟨b0, 5, none⟩ = some v5 ∧
  w'.cell? ⟨b0, 6, none⟩ = some v6 ∧
  w'.cell? ⟨b0, 7, none⟩ = some v7 ∧
  w'.cell? ⟨b0, 8, none⟩ = some v8 ∧
  w'.cell? ⟨b0, 9, none⟩ = some v9 ∧
  w'.cell? ⟨b0, 10, none⟩ = some v10 ∧
  w'.cell? ⟨b0, 11, none⟩ = some v11 ∧
  w'.cell? ⟨b0, 12, none⟩ = some v12 ∧
  w'.cell? ⟨b0, 13, none⟩ = some v13 ∧
  w'.cell? ⟨b0, 14, none⟩ = some v14 ∧
  w'.cell? ⟨b0, 15, none⟩ = some v15 ∧
  w'.cell? ⟨b0, 16, none⟩ = some v16 ∧
  w'.cell? ⟨b1, 0, none⟩ = some (cellV w' ⟨b1, 0, none⟩) ∧
  w'.cell? ⟨b1, 1, none⟩ = some (cellV w' ⟨b1, 1, none⟩) ∧
  w'.cell? ⟨b1, 2, none⟩ = some (cellV w' ⟨b1, 2, none⟩) ∧
  w'.cell? ⟨b1, 3, none⟩ = some (cellV w' ⟨b1, 3, none⟩) ∧
  w'.cell? ⟨b1, 4, none⟩ = some (cellV w' ⟨b1, 4, none⟩) ∧
  w'.cell? ⟨b1, 5, none⟩ = some (cellV w' ⟨b1, 5, none⟩) ∧
  w'.cell? ⟨b1, 6, none⟩ = some (cellV w' ⟨b1, 6, none⟩) ∧
  w'.cell? ⟨b1, 7, none⟩ = some (cellV w' ⟨b1, 7, none⟩) ∧
  w'.cell? ⟨b1, 8, none⟩ = some (cellV w' ⟨b1, 8, none⟩) ∧
  w'.cell? ⟨b1, 9, none⟩ = some (cellV w' ⟨b1, 9, none⟩) ∧
  w'.cell? ⟨b1, 10, none⟩ = some (cellV w' ⟨b1, 10, none⟩) ∧
  w'.frozen? ⟨b1, 0, none⟩ = false ∧
  w'.frozen? ⟨b1, 1, none⟩ = false ∧
  w'.frozen? ⟨b1, 2, none⟩ = false ∧
  w'.frozen? ⟨b1, 3, none⟩ = false ∧
  w'.frozen? ⟨b1, 4, none⟩ = false ∧
  w'.frozen? ⟨b1, 5, none⟩ = false ∧
  w'.frozen? ⟨b1, 6, none⟩ = false ∧
  w'.frozen? ⟨b1, 7, none⟩ = false ∧
  w'.frozen? ⟨b1, 8, none⟩ = false ∧
  w'.frozen? ⟨b1, 9, none⟩ = false ∧
  w'.frozen? ⟨b1, 10, none⟩ = false
theorem GL.step {w w1 w2 : World} {b0 b1 : Nat} {v0 v1 v2 v3 v4 v5 v6 v7 v8 v9 v10 v11 v12 v13 v14 v15 v16 : Value} (k : Kept w1 w2) (h : GL w b0 b1 v0 v1 v2 v3 v4 v5 v6 v7 v8 v9 v10 v11 v12 v13 v14 v15 v16 w1) : GL w b0 b1 v0 v1 v2 v3 v4 v5 v6 v7 v8 v9 v10 v11 v12 v13 v14 v15 v16 w2 := by
  obtain ⟨h0, h1, h2, h3, h4, h5, h6, h7, h8, h9, h10, h11, h12, h13, h14, h15, h16, h17, h18, h19, h20, h21, h22, h23, h24, h25, h26, h27, h28, h29, h30, h31, h32, h33, h34, h35, h36, h37, h38, h39⟩ := h
  exact ⟨h0.trans k, kept_cell k h1, kept_cell k h2, kept_cell k h3, kept_cell k h4, kept_cell k h5, kept_cell k h6, kept_cell k h7, kept_cell k h8, kept_cell k h9, kept_cell k h10, kept_cell k h11, kept_cell k h12, kept_cell k h13, kept_cell k h14, kept_cell k h15, kept_cell k h16, kept_cell k h17, kept_there k h18, kept_there k h19, kept_there k h20, kept_there k h21, kept_there k h22, kept_there k h23, kept_there k h24, kept_there k h25, kept_there k h26, kept_there k h27, kept_there k h28, kept_frozen k h29, kept_frozen k h30, kept_frozen k h31, kept_frozen k h32, kept_frozen k h33, kept_frozen k h34, kept_frozen k h35, kept_frozen k h36, kept_frozen k h37, kept_frozen k h38, kept_frozen k h39⟩
theorem GL.drew {w w1 : World} {b0 b1 : Nat} {v0 v1 v2 v3 v4 v5 v6 v7 v8 v9 v10 v11 v12 v13 v14 v15 v16 : Value} (h : GL w b0 b1 v0 v1 v2 v3 v4 v5 v6 v7 v8 v9 v10 v11 v12 v13 v14 v15 v16 w1) : GL w b0 b1 v0 v1 v2 v3 v4 v5 v6 v7 v8 v9 v10 v11 v12 v13 v14 v15 v16 w1.drew := h.step (Kept.refl _).drew
theorem GL.put {w w1 : World} {b0 b1 : Nat} {v0 v1 v2 v3 v4 v5 v6 v7 v8 v9 v10 v11 v12 v13 v14 v15 v16 : Value} (i : Nat) (v : Value) (ho : w.heap.size ≤ b1) (n0 : b0 ≠ b1) (h : GL w b0 b1 v0 v1 v2 v3 v4 v5 v6 v7 v8 v9 v10 v11 v12 v13 v14 v15 v16 w1) : GL w b0 b1 v0 v1 v2 v3 v4 v5 v6 v7 v8 v9 v10 v11 v12 v13 v14 v15 v16 (w1.setCell ⟨b1, i, none⟩ v) := by
  obtain ⟨h0, h1, h2, h3, h4, h5, h6, h7, h8, h9, h10, h11, h12, h13, h14, h15, h16, h17, h18, h19, h20, h21, h22, h23, h24, h25, h26, h27, h28, h29, h30, h31, h32, h33, h34, h35, h36, h37, h38, h39⟩ := h
  exact ⟨h0.setCell (p := ⟨b1, i, none⟩) ho v, (World.cell?_setCell_other _ _ _ _ (fun e => n0 (by injection e with e; exact e.symm))).trans h1, (World.cell?_setCell_other _ _ _ _ (fun e => n0 (by injection e with e; exact e.symm))).trans h2, (World.cell?_setCell_other _ _ _ _ (fun e => n0 (by injection e with e; exact e.symm))).trans h3, (World.cell?_setCell_other _ _ _ _ (fun e => n0 (by injection e with e; exact e.symm))).trans h4, (World.cell?_setCell_other _ _ _ _ (fun e => n0 (by injection e with e; exact e.symm))).trans h5, (World.cell?_setCell_other _ _ _ _ (fun e => n0 (by injection e with e; exact e.symm))).trans h6, (World.cell?_setCell_other _ _ _ _ (fun e => n0 (by injection e with e; exact e.symm))).trans h7, (World.cell?_setCell_other _ _ _ _ (fun e => n0 (by injection e with e; exact e.symm))).trans h8, (World.cell?_setCell_other _ _ _ _ (fun e => n0 (by injection e with e; exact e.symm))).trans h9, (World.cell?_setCell_other _ _ _ _ (fun e => n0 (by injection e with e; exact e.symm))).trans h10, (World.cell?_setCell_other _ _ _ _ (fun e => n0 (by injection e with e; exact e.symm))).trans h11, (World.cell?_setCell_other _ _ _ _ (fun e => n0 (by injection e with e; exact e.symm))).trans h12, (World.cell?_setCell_other _ _ _ _ (fun e => n0 (by injection e with e; exact e.symm))).trans h13, (World.cell?_setCell_other _ _ _ _ (fun e => n0 (by injection e with e; exact e.symm))).trans h14, (World.cell?_setCell_other _ _ _ _ (fun e => n0 (by injection e with e; exact e.symm))).trans h15, (World.cell?_setCell_other _ _ _ _ (fun e => n0 (by injection e with e; exact e.symm))).trans h16, (World.cell?_setCell_other _ _ _ _ (fun e => n0 (by injection e with e; exact e.symm))).trans h17, put_there h18, put_there h19, put_there h20, put_there h21, put_there h22, put_there h23, put_there h24, put_there h25, put_there h26, put_there h27, put_there h28, (World.frozen?_setCell _ _ _ _).trans h29, (World.frozen?_setCell _ _ _ _).trans h30, (World.frozen?_setCell _ _ _ _).trans h31, (World.frozen?_setCell _ _ _ _).trans h32, (World.frozen?_setCell _ _ _ _).trans h33, (World.frozen?_setCell _ _ _ _).trans h34, (World.frozen?_setCell _ _ _ _).trans h35, (World.frozen?_setCell _ _ _ _).trans h36, (World.frozen?_setCell _ _ _ _).trans h37, (World.frozen?_setCell _ _ _ _).trans h38, (World.frozen?_setCell _ _ _ _).trans h39⟩

set_option maxHeartbeats 4000000 in
theorem look_calls (id ow kd sx sy sz ax ay az vx vy vz px py pz ms tm : Int) (w : World) :
    Calls Try.prog 15 #[.agg #[.int .i64 id, .int .i64 ow, .int .i64 kd, .int .i64 sx, .int .i64 sy, .int .i64 sz, .int .i64 ax, .int .i64 ay, .int .i64 az, .int .i64 vx, .int .i64 vy, .int .i64 vz, .int .i64 px, .int .i64 py, .int .i64 pz, .int .i64 ms, .int .i64 tm]] w fun e w' => e = .returned (.agg #[.int .i64 id, .int .i64 kd, .int .i64 ((sx / 256)), .int .i64 ((sy / 256)), .int .i64 ((sz / 256)), .int .i64 ((ax / 256)), .int .i64 ((ay / 256)), .int .i64 ((az / 256)), .int .i64 ((vx / 256)), .int .i64 ((vy / 256)), .int .i64 ((vz / 256))]) ∧ Kept w w' := by
  go_enter Try.func15, Try.ntmps15
  go_wp2
  refine wp_region_held_drew (S := (fun w' => Kept w w' ∧ w'.cell? ⟨w.heap.size, 0, none⟩ = some (.int .i64 id) ∧ w'.cell? ⟨w.heap.size, 1, none⟩ = some (.int .i64 ow) ∧ w'.cell? ⟨w.heap.size, 2, none⟩ = some (.int .i64 kd) ∧ w'.cell? ⟨w.heap.size, 3, none⟩ = some (.int .i64 sx) ∧ w'.cell? ⟨w.heap.size, 4, none⟩ = some (.int .i64 sy) ∧ w'.cell? ⟨w.heap.size, 5, none⟩ = some (.int .i64 sz) ∧ w'.cell? ⟨w.heap.size, 6, none⟩ = some (.int .i64 ax) ∧ w'.cell? ⟨w.heap.size, 7, none⟩ = some (.int .i64 ay) ∧ w'.cell? ⟨w.heap.size, 8, none⟩ = some (.int .i64 az) ∧ w'.cell? ⟨w.heap.size, 9, none⟩ = some (.int .i64 vx) ∧ w'.cell? ⟨w.heap.size, 10, none⟩ = some (.int .i64 vy) ∧ w'.cell? ⟨w.heap.size, 11, none⟩ = some (.int .i64 vz) ∧ w'.cell? ⟨w.heap.size, 12, none⟩ = some (.int .i64 px) ∧ w'.cell? ⟨w.heap.size, 13, none⟩ = some (.int .i64 py) ∧ w'.cell? ⟨w.heap.size, 14, none⟩ = some (.int .i64 pz) ∧ w'.cell? ⟨w.heap.size, 15, none⟩ = some (.int .i64 ms) ∧ w'.cell? ⟨w.heap.size, 16, none⟩ = some (.int .i64 tm) ∧ w'.cell? ⟨w.heap.size + 1, 0, none⟩ = some (cellV w' ⟨w.heap.size + 1, 0, none⟩) ∧ w'.cell? ⟨w.heap.size + 1, 1, none⟩ = some (cellV w' ⟨w.heap.size + 1, 1, none⟩) ∧ w'.cell? ⟨w.heap.size + 1, 2, none⟩ = some (cellV w' ⟨w.heap.size + 1, 2, none⟩) ∧ w'.cell? ⟨w.heap.size + 1, 3, none⟩ = some (cellV w' ⟨w.heap.size + 1, 3, none⟩) ∧ w'.cell? ⟨w.heap.size + 1, 4, none⟩ = some (cellV w' ⟨w.heap.size + 1, 4, none⟩) ∧ w'.cell? ⟨w.heap.size + 1, 5, none⟩ = some (cellV w' ⟨w.heap.size + 1, 5, none⟩) ∧ w'.cell? ⟨w.heap.size + 1, 6, none⟩ = some (cellV w' ⟨w.heap.size + 1, 6, none⟩) ∧ w'.cell? ⟨w.heap.size + 1, 7, none⟩ = some (cellV w' ⟨w.heap.size + 1, 7, none⟩) ∧ w'.cell? ⟨w.heap.size + 1, 8, none⟩ = some (cellV w' ⟨w.heap.size + 1, 8, none⟩) ∧ w'.cell? ⟨w.heap.size + 1, 9, none⟩ = some (cellV w' ⟨w.heap.size + 1, 9, none⟩) ∧ w'.cell? ⟨w.heap.size + 1, 10, none⟩ = some (cellV w' ⟨w.heap.size + 1, 10, none⟩) ∧ w'.frozen? ⟨w.heap.size + 1, 0, none⟩ = false ∧ w'.frozen? ⟨w.heap.size + 1, 1, none⟩ = false ∧ w'.frozen? ⟨w.heap.size + 1, 2, none⟩ = false ∧ w'.frozen? ⟨w.heap.size + 1, 3, none⟩ = false ∧ w'.frozen? ⟨w.heap.size + 1, 4, none⟩ = false ∧ w'.frozen? ⟨w.heap.size + 1, 5, none⟩ = false ∧ w'.frozen? ⟨w.heap.size + 1, 6, none⟩ = false ∧ w'.frozen? ⟨w.heap.size + 1, 7, none⟩ = false ∧ w'.frozen? ⟨w.heap.size + 1, 8, none⟩ = false ∧ w'.frozen? ⟨w.heap.size + 1, 9, none⟩ = false ∧ w'.frozen? ⟨w.heap.size + 1, 10, none⟩ = false)) (by kernel_rfl) ?_ (fun hHeld1 => ?_)
  · (try dsimp only); exact GL.drew (by refine ⟨((Kept.refl w).alloc _ _).alloc _ _, ?_, ?_, ?_, ?_, ?_, ?_, ?_, ?_, ?_, ?_, ?_, ?_, ?_, ?_, ?_, ?_, ?_, cellV_of (v := .int .i64 0) ?_, cellV_of (v := .int .i64 0) ?_, cellV_of (v := .int .i64 0) ?_, cellV_of (v := .int .i64 0) ?_, cellV_of (v := .int .i64 0) ?_, cellV_of (v := .int .i64 0) ?_, cellV_of (v := .int .i64 0) ?_, cellV_of (v := .int .i64 0) ?_, cellV_of (v := .int .i64 0) ?_, cellV_of (v := .int .i64 0) ?_, cellV_of (v := .int .i64 0) ?_, ?_, ?_, ?_, ?_, ?_, ?_, ?_, ?_, ?_, ?_, ?_⟩ <;> go_simp)
  refine tkW 0 rfl ?_; refine tkW 1 rfl ?_; refine tkW 2 rfl ?_; refine tkW 3 rfl ?_
  try simp only [Act.put, List.setIfInBounds_toArray, List.set_cons_zero, List.set_cons_succ, List.getElem_toArray, List.getElem_cons_succ, List.getElem_cons_zero]
  refine tkW 4 rfl ?_; refine tkW 5 rfl ?_; refine tkW 6 rfl ?_; refine tkW 7 rfl ?_
  try simp only [Act.put, List.setIfInBounds_toArray, List.set_cons_zero, List.set_cons_succ, List.getElem_toArray, List.getElem_cons_succ, List.getElem_cons_zero]
  refine tkW 9 rfl ?_; refine tkW 10 rfl ?_; refine tkW 12 rfl ?_; refine tkW 13 rfl ?_
  try simp only [Act.put, List.setIfInBounds_toArray, List.set_cons_zero, List.set_cons_succ, List.getElem_toArray, List.getElem_cons_succ, List.getElem_cons_zero]
  refine wpAnyH_ready (rs := [8]) (by kernel_rfl) (by simp) ?_
  refine AllReadyH.cons rfl (fun K hK => ?_) AllReadyH.nil
  first | (with_reducible refine iteYes ?hcx ?htx; case hcx => kernel_rfl) | rw [if_pos (by rfl)]
  simp only [List.getElem_toArray, List.getElem_cons_succ, List.getElem_cons_zero]
  go_simp
  (go_at_call 32; refine (coarse_calls _ _ _ _).mono ?_; rintro e w1 ⟨rfl, k1⟩)
  try go_wp2_with fail
  refine hK.out _ _ ?_ (fun hHeld2 => ?_)
  · (try dsimp only); exact GL.step k1 hHeld1
  clear hK K hHeld1
  try simp only [Act.put, List.setIfInBounds_toArray, List.set_cons_zero, List.set_cons_succ, List.getElem_toArray, List.getElem_cons_succ, List.getElem_cons_zero]
  refine wpAnyH_ready (rs := [11]) (by kernel_rfl) (by simp) ?_
  refine AllReadyH.cons rfl (fun K hK => ?_) AllReadyH.nil
  first | (with_reducible refine iteYes ?hcx ?htx; case hcx => kernel_rfl) | rw [if_pos (by rfl)]
  simp only [List.getElem_toArray, List.getElem_cons_succ, List.getElem_cons_zero]
  go_simp
  (go_at_call 32; refine (coarse_calls _ _ _ _).mono ?_; rintro e w2 ⟨rfl, k2⟩)
  try go_wp2_with fail
  refine hK.out _ _ ?_ (fun hHeld3 => ?_)
  · (try dsimp only); exact GL.step k2 hHeld2
  clear hK K hHeld2
  try simp only [Act.put, List.setIfInBounds_toArray, List.set_cons_zero, List.set_cons_succ, List.getElem_toArray, List.getElem_cons_succ, List.getElem_cons_zero]
  refine wpAnyH_ready (rs := [14]) (by kernel_rfl) (by simp) ?_
  refine AllReadyH.cons rfl (fun K hK => ?_) AllReadyH.nil
  first | (with_reducible refine iteYes ?hcx ?htx; case hcx => kernel_rfl) | rw [if_pos (by rfl)]
  simp only [List.getElem_toArray, List.getElem_cons_succ, List.getElem_cons_zero]
  go_simp
  (go_at_call 32; refine (coarse_calls _ _ _ _).mono ?_; rintro e w3 ⟨rfl, k3⟩)
  try go_wp2_with fail
  refine hK.out _ _ ?_ (fun hHeld4 => ?_)
  · (try dsimp only); exact GL.step k3 hHeld3
  clear hK K hHeld3
  try simp only [Act.put, List.setIfInBounds_toArray, List.set_cons_zero, List.set_cons_succ, List.getElem_toArray, List.getElem_cons_succ, List.getElem_cons_zero]
  refine tkW 15 rfl ?_
  try simp only [Act.put, List.setIfInBounds_toArray, List.set_cons_zero, List.set_cons_succ, List.getElem_toArray, List.getElem_cons_succ, List.getElem_cons_zero]
  refine wpAnyH_ready (rs := [16]) (by kernel_rfl) (by simp) ?_
  refine AllReadyH.cons rfl (fun K hK => ?_) AllReadyH.nil
  first | (with_reducible refine iteYes ?hcx ?htx; case hcx => kernel_rfl) | rw [if_pos (by rfl)]
  simp only [List.getElem_toArray, List.getElem_cons_succ, List.getElem_cons_zero]
  go_simp
  refine hK.out _ _ ?_ (fun hHeld5 => ?_)
  · (try dsimp only); exact (GL.put 10 _ (by omega) (by omega) (GL.put 9 _ (by omega) (by omega) (GL.put 8 _ (by omega) (by omega) (GL.put 7 _ (by omega) (by omega) (GL.put 6 _ (by omega) (by omega) (GL.put 5 _ (by omega) (by omega) (GL.put 4 _ (by omega) (by omega) (GL.put 3 _ (by omega) (by omega) (GL.put 2 _ (by omega) (by omega) (GL.put 1 _ (by omega) (by omega) (GL.put 0 _ (by omega) (by omega) hHeld4)))))))))))
  clear hK K
  try simp only [Act.put, List.setIfInBounds_toArray, List.set_cons_zero, List.set_cons_succ, List.getElem_toArray, List.getElem_cons_succ, List.getElem_cons_zero]
  refine wpAnyH_done (by kernel_rfl) ?_ _
  go_wp2
  obtain ⟨hk, _, _, _, _, _, _, _, _, _, _, _, _, _, _, _, _, _, c0, c1, c2, c3, c4, c5, c6, c7, c8, c9, c10, _⟩ := hHeld4
  obtain ⟨e0, e1, e2, e3, e4, e5, e6, e7, e8, e9, e10⟩ := set11_of (v0 := .int .i64 id) (v1 := .int .i64 kd) (v2 := .int .i64 ((sx / 256))) (v3 := .int .i64 ((sy / 256))) (v4 := .int .i64 ((sz / 256))) (v5 := .int .i64 ((ax / 256))) (v6 := .int .i64 ((ay / 256))) (v7 := .int .i64 ((az / 256))) (v8 := .int .i64 ((vx / 256))) (v9 := .int .i64 ((vy / 256))) (v10 := .int .i64 ((vz / 256))) c0 c1 c2 c3 c4 c5 c6 c7 c8 c9 c10
  exact bodyPost_ret (v := .agg #[.int .i64 id, .int .i64 kd, .int .i64 ((sx / 256)), .int .i64 ((sy / 256)), .int .i64 ((sz / 256)), .int .i64 ((ax / 256)), .int .i64 ((ay / 256)), .int .i64 ((az / 256)), .int .i64 ((vx / 256)), .int .i64 ((vy / 256)), .int .i64 ((vz / 256))]) (by simp [results, Try.results15, go_sem, e0, e1, e2, e3, e4, e5, e6, e7, e8, e9, e10]) rfl ⟨rfl, kept_set11 hk (by omega) _ _ _ _ _ _ _ _ _ _ _⟩
set_option maxHeartbeats 4000000 in
theorem refLook_calls (id ow kd sx sy sz ax ay az vx vy vz px py pz ms tm : Int) (w : World) :
    Calls Try.prog 16 #[.agg #[.int .i64 id, .int .i64 ow, .int .i64 kd, .int .i64 sx, .int .i64 sy, .int .i64 sz, .int .i64 ax, .int .i64 ay, .int .i64 az, .int .i64 vx, .int .i64 vy, .int .i64 vz, .int .i64 px, .int .i64 py, .int .i64 pz, .int .i64 ms, .int .i64 tm]] w fun e w' => e = .returned (.agg #[.int .i64 id, .int .i64 kd, .int .i64 ((flX sx)), .int .i64 ((flX sy)), .int .i64 ((flX sz)), .int .i64 ((flX ax)), .int .i64 ((flX ay)), .int .i64 ((flX az)), .int .i64 ((flX vx)), .int .i64 ((flX vy)), .int .i64 ((flX vz))]) ∧ Kept w w' := by
  go_enter Try.func16, Try.ntmps16
  go_wp2
  refine wp_region_held_drew (S := (fun w' => Kept w w' ∧ w'.cell? ⟨w.heap.size, 0, none⟩ = some (.int .i64 id) ∧ w'.cell? ⟨w.heap.size, 1, none⟩ = some (.int .i64 ow) ∧ w'.cell? ⟨w.heap.size, 2, none⟩ = some (.int .i64 kd) ∧ w'.cell? ⟨w.heap.size, 3, none⟩ = some (.int .i64 sx) ∧ w'.cell? ⟨w.heap.size, 4, none⟩ = some (.int .i64 sy) ∧ w'.cell? ⟨w.heap.size, 5, none⟩ = some (.int .i64 sz) ∧ w'.cell? ⟨w.heap.size, 6, none⟩ = some (.int .i64 ax) ∧ w'.cell? ⟨w.heap.size, 7, none⟩ = some (.int .i64 ay) ∧ w'.cell? ⟨w.heap.size, 8, none⟩ = some (.int .i64 az) ∧ w'.cell? ⟨w.heap.size, 9, none⟩ = some (.int .i64 vx) ∧ w'.cell? ⟨w.heap.size, 10, none⟩ = some (.int .i64 vy) ∧ w'.cell? ⟨w.heap.size, 11, none⟩ = some (.int .i64 vz) ∧ w'.cell? ⟨w.heap.size, 12, none⟩ = some (.int .i64 px) ∧ w'.cell? ⟨w.heap.size, 13, none⟩ = some (.int .i64 py) ∧ w'.cell? ⟨w.heap.size, 14, none⟩ = some (.int .i64 pz) ∧ w'.cell? ⟨w.heap.size, 15, none⟩ = some (.int .i64 ms) ∧ w'.cell? ⟨w.heap.size, 16, none⟩ = some (.int .i64 tm) ∧ w'.cell? ⟨w.heap.size + 1, 0, none⟩ = some (cellV w' ⟨w.heap.size + 1, 0, none⟩) ∧ w'.cell? ⟨w.heap.size + 1, 1, none⟩ = some (cellV w' ⟨w.heap.size + 1, 1, none⟩) ∧ w'.cell? ⟨w.heap.size + 1, 2, none⟩ = some (cellV w' ⟨w.heap.size + 1, 2, none⟩) ∧ w'.cell? ⟨w.heap.size + 1, 3, none⟩ = some (cellV w' ⟨w.heap.size + 1, 3, none⟩) ∧ w'.cell? ⟨w.heap.size + 1, 4, none⟩ = some (cellV w' ⟨w.heap.size + 1, 4, none⟩) ∧ w'.cell? ⟨w.heap.size + 1, 5, none⟩ = some (cellV w' ⟨w.heap.size + 1, 5, none⟩) ∧ w'.cell? ⟨w.heap.size + 1, 6, none⟩ = some (cellV w' ⟨w.heap.size + 1, 6, none⟩) ∧ w'.cell? ⟨w.heap.size + 1, 7, none⟩ = some (cellV w' ⟨w.heap.size + 1, 7, none⟩) ∧ w'.cell? ⟨w.heap.size + 1, 8, none⟩ = some (cellV w' ⟨w.heap.size + 1, 8, none⟩) ∧ w'.cell? ⟨w.heap.size + 1, 9, none⟩ = some (cellV w' ⟨w.heap.size + 1, 9, none⟩) ∧ w'.cell? ⟨w.heap.size + 1, 10, none⟩ = some (cellV w' ⟨w.heap.size + 1, 10, none⟩) ∧ w'.frozen? ⟨w.heap.size + 1, 0, none⟩ = false ∧ w'.frozen? ⟨w.heap.size + 1, 1, none⟩ = false ∧ w'.frozen? ⟨w.heap.size + 1, 2, none⟩ = false ∧ w'.frozen? ⟨w.heap.size + 1, 3, none⟩ = false ∧ w'.frozen? ⟨w.heap.size + 1, 4, none⟩ = false ∧ w'.frozen? ⟨w.heap.size + 1, 5, none⟩ = false ∧ w'.frozen? ⟨w.heap.size + 1, 6, none⟩ = false ∧ w'.frozen? ⟨w.heap.size + 1, 7, none⟩ = false ∧ w'.frozen? ⟨w.heap.size + 1, 8, none⟩ = false ∧ w'.frozen? ⟨w.heap.size + 1, 9, none⟩ = false ∧ w'.frozen? ⟨w.heap.size + 1, 10, none⟩ = false)) (by kernel_rfl) ?_ (fun hHeld1 => ?_)
  · (try dsimp only); exact GL.drew (by refine ⟨((Kept.refl w).alloc _ _).alloc _ _, ?_, ?_, ?_, ?_, ?_, ?_, ?_, ?_, ?_, ?_, ?_, ?_, ?_, ?_, ?_, ?_, ?_, cellV_of (v := .int .i64 0) ?_, cellV_of (v := .int .i64 0) ?_, cellV_of (v := .int .i64 0) ?_, cellV_of (v := .int .i64 0) ?_, cellV_of (v := .int .i64 0) ?_, cellV_of (v := .int .i64 0) ?_, cellV_of (v := .int .i64 0) ?_, cellV_of (v := .int .i64 0) ?_, cellV_of (v := .int .i64 0) ?_, cellV_of (v := .int .i64 0) ?_, cellV_of (v := .int .i64 0) ?_, ?_, ?_, ?_, ?_, ?_, ?_, ?_, ?_, ?_, ?_, ?_⟩ <;> go_simp)
  refine tkW 0 rfl ?_; refine tkW 1 rfl ?_; refine tkW 2 rfl ?_; refine tkW 3 rfl ?_
  try simp only [Act.put, List.setIfInBounds_toArray, List.set_cons_zero, List.set_cons_succ, List.getElem_toArray, List.getElem_cons_succ, List.getElem_cons_zero]
  refine tkW 4 rfl ?_; refine tkW 5 rfl ?_; refine tkW 6 rfl ?_; refine tkW 7 rfl ?_
  try simp only [Act.put, List.setIfInBounds_toArray, List.set_cons_zero, List.set_cons_succ, List.getElem_toArray, List.getElem_cons_succ, List.getElem_cons_zero]
  refine tkW 9 rfl ?_; refine tkW 10 rfl ?_; refine tkW 12 rfl ?_; refine tkW 13 rfl ?_
  try simp only [Act.put, List.setIfInBounds_toArray, List.set_cons_zero, List.set_cons_succ, List.getElem_toArray, List.getElem_cons_succ, List.getElem_cons_zero]
  refine wpAnyH_ready (rs := [8]) (by kernel_rfl) (by simp) ?_
  refine AllReadyH.cons rfl (fun K hK => ?_) AllReadyH.nil
  first | (with_reducible refine iteYes ?hcx ?htx; case hcx => kernel_rfl) | rw [if_pos (by rfl)]
  simp only [List.getElem_toArray, List.getElem_cons_succ, List.getElem_cons_zero]
  go_simp
  (go_at_call 33; refine (floor_calls _ _ _ _).mono ?_; rintro e w1 ⟨rfl, k1⟩)
  try go_wp2_with fail
  refine hK.out _ _ ?_ (fun hHeld2 => ?_)
  · (try dsimp only); exact GL.step k1 hHeld1
  clear hK K hHeld1
  try simp only [Act.put, List.setIfInBounds_toArray, List.set_cons_zero, List.set_cons_succ, List.getElem_toArray, List.getElem_cons_succ, List.getElem_cons_zero]
  refine wpAnyH_ready (rs := [11]) (by kernel_rfl) (by simp) ?_
  refine AllReadyH.cons rfl (fun K hK => ?_) AllReadyH.nil
  first | (with_reducible refine iteYes ?hcx ?htx; case hcx => kernel_rfl) | rw [if_pos (by rfl)]
  simp only [List.getElem_toArray, List.getElem_cons_succ, List.getElem_cons_zero]
  go_simp
  (go_at_call 33; refine (floor_calls _ _ _ _).mono ?_; rintro e w2 ⟨rfl, k2⟩)
  try go_wp2_with fail
  refine hK.out _ _ ?_ (fun hHeld3 => ?_)
  · (try dsimp only); exact GL.step k2 hHeld2
  clear hK K hHeld2
  try simp only [Act.put, List.setIfInBounds_toArray, List.set_cons_zero, List.set_cons_succ, List.getElem_toArray, List.getElem_cons_succ, List.getElem_cons_zero]
  refine wpAnyH_ready (rs := [14]) (by kernel_rfl) (by simp) ?_
  refine AllReadyH.cons rfl (fun K hK => ?_) AllReadyH.nil
  first | (with_reducible refine iteYes ?hcx ?htx; case hcx => kernel_rfl) | rw [if_pos (by rfl)]
  simp only [List.getElem_toArray, List.getElem_cons_succ, List.getElem_cons_zero]
  go_simp
  (go_at_call 33; refine (floor_calls _ _ _ _).mono ?_; rintro e w3 ⟨rfl, k3⟩)
  try go_wp2_with fail
  refine hK.out _ _ ?_ (fun hHeld4 => ?_)
  · (try dsimp only); exact GL.step k3 hHeld3
  clear hK K hHeld3
  try simp only [Act.put, List.setIfInBounds_toArray, List.set_cons_zero, List.set_cons_succ, List.getElem_toArray, List.getElem_cons_succ, List.getElem_cons_zero]
  refine tkW 15 rfl ?_
  try simp only [Act.put, List.setIfInBounds_toArray, List.set_cons_zero, List.set_cons_succ, List.getElem_toArray, List.getElem_cons_succ, List.getElem_cons_zero]
  refine wpAnyH_ready (rs := [16]) (by kernel_rfl) (by simp) ?_
  refine AllReadyH.cons rfl (fun K hK => ?_) AllReadyH.nil
  first | (with_reducible refine iteYes ?hcx ?htx; case hcx => kernel_rfl) | rw [if_pos (by rfl)]
  simp only [List.getElem_toArray, List.getElem_cons_succ, List.getElem_cons_zero]
  go_simp
  refine hK.out _ _ ?_ (fun hHeld5 => ?_)
  · (try dsimp only); exact (GL.put 10 _ (by omega) (by omega) (GL.put 9 _ (by omega) (by omega) (GL.put 8 _ (by omega) (by omega) (GL.put 7 _ (by omega) (by omega) (GL.put 6 _ (by omega) (by omega) (GL.put 5 _ (by omega) (by omega) (GL.put 4 _ (by omega) (by omega) (GL.put 3 _ (by omega) (by omega) (GL.put 2 _ (by omega) (by omega) (GL.put 1 _ (by omega) (by omega) (GL.put 0 _ (by omega) (by omega) hHeld4)))))))))))
  clear hK K
  try simp only [Act.put, List.setIfInBounds_toArray, List.set_cons_zero, List.set_cons_succ, List.getElem_toArray, List.getElem_cons_succ, List.getElem_cons_zero]
  refine wpAnyH_done (by kernel_rfl) ?_ _
  go_wp2
  obtain ⟨hk, _, _, _, _, _, _, _, _, _, _, _, _, _, _, _, _, _, c0, c1, c2, c3, c4, c5, c6, c7, c8, c9, c10, _⟩ := hHeld4
  obtain ⟨e0, e1, e2, e3, e4, e5, e6, e7, e8, e9, e10⟩ := set11_of (v0 := .int .i64 id) (v1 := .int .i64 kd) (v2 := .int .i64 ((flX sx))) (v3 := .int .i64 ((flX sy))) (v4 := .int .i64 ((flX sz))) (v5 := .int .i64 ((flX ax))) (v6 := .int .i64 ((flX ay))) (v7 := .int .i64 ((flX az))) (v8 := .int .i64 ((flX vx))) (v9 := .int .i64 ((flX vy))) (v10 := .int .i64 ((flX vz))) c0 c1 c2 c3 c4 c5 c6 c7 c8 c9 c10
  exact bodyPost_ret (v := .agg #[.int .i64 id, .int .i64 kd, .int .i64 ((flX sx)), .int .i64 ((flX sy)), .int .i64 ((flX sz)), .int .i64 ((flX ax)), .int .i64 ((flX ay)), .int .i64 ((flX az)), .int .i64 ((flX vx)), .int .i64 ((flX vy)), .int .i64 ((flX vz))]) (by simp [results, Try.results16, go_sem, e0, e1, e2, e3, e4, e5, e6, e7, e8, e9, e10]) rfl ⟨rfl, kept_set11 hk (by omega) _ _ _ _ _ _ _ _ _ _ _⟩
end Go.Proofs.Ytbenlgandjjopaa
