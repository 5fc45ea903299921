/- gyreref.Of and gyreref.out answer the shortest way out: whatever the boxes. -/
import Derived.Test.YthhpcfnoiooopaaGeo14
import Derived.Test.YthhpcfnoiooopaaGeo7
import Derived.Deep.CutBlock
namespace Go.Proofs.Ythhpcfnoiooopaa
open Go.ChangeShapes Go.WideShapes Go.ChangeAt Go.RowKit
set_option linter.unusedSimpArgs false

theorem of_calls (b : Nat) (x y z : Int) (w : World) (H : Row3 b x y z w) : Calls Try.prog 89 #[.slice (some ⟨b, 0, none⟩) 3 3] w fun e w' => e = .returned (.agg #[.int .i64 x, .int .i64 y, .int .i64 z]) ∧ Kept w w' := by
  have hlt := World.block_lt_of_cell? _ _ H.1
  have l0 := later H.1 (.cells #[.int .i64 0, .int .i64 0, .int .i64 0] 26)
  have l1 := later H.2.1 (.cells #[.int .i64 0, .int .i64 0, .int .i64 0] 26)
  have l2 := later H.2.2 (.cells #[.int .i64 0, .int .i64 0, .int .i64 0] 26)
  clear H
  have hlt' : b < w.heap.size := hlt
  clear hlt
  go_enter Try.func89, Try.ntmps89
  go_wp2
  have c0 : (w.alloc (.cells #[.int .i64 0, .int .i64 0, .int .i64 0] 26)).cell? ⟨w.heap.size, 0, none⟩ = some (.int .i64 0) := by go_simp
  have c1 : (w.alloc (.cells #[.int .i64 0, .int .i64 0, .int .i64 0] 26)).cell? ⟨w.heap.size, 1, none⟩ = some (.int .i64 0) := by go_simp
  have c2 : (w.alloc (.cells #[.int .i64 0, .int .i64 0, .int .i64 0] 26)).cell? ⟨w.heap.size, 2, none⟩ = some (.int .i64 0) := by go_simp
  have f : ∀ i, (w.alloc (.cells #[.int .i64 0, .int .i64 0, .int .i64 0] 26)).frozen? ⟨w.heap.size, i, none⟩ = false := by intro i; go_simp
  have hk : Kept w (w.alloc (.cells #[.int .i64 0, .int .i64 0, .int .i64 0] 26)) := (Kept.refl w).alloc _ _
  generalize (w.alloc (.cells #[.int .i64 0, .int .i64 0, .int .i64 0] 26)) = wA at l0 l1 l2 c0 c1 c2 f hk ⊢
  refine wp_region_held_drew (S := (fun w' => Kept w w' ∧ w'.cell? ⟨b, 0, none⟩ = some (.int .i64 x) ∧ w'.cell? ⟨b, 1, none⟩ = some (.int .i64 y) ∧ w'.cell? ⟨b, 2, none⟩ = some (.int .i64 z) ∧ w'.cell? ⟨w.heap.size, 0, none⟩ = some (cellV w' ⟨w.heap.size, 0, none⟩) ∧ w'.cell? ⟨w.heap.size, 1, none⟩ = some (cellV w' ⟨w.heap.size, 1, none⟩) ∧ w'.cell? ⟨w.heap.size, 2, none⟩ = some (cellV w' ⟨w.heap.size, 2, none⟩) ∧ w'.frozen? ⟨w.heap.size, 0, none⟩ = false ∧ w'.frozen? ⟨w.heap.size, 1, none⟩ = false ∧ w'.frozen? ⟨w.heap.size, 2, none⟩ = false)) (by kernel_rfl) ?_ (fun hHeld1 => ?_)
  · (try dsimp only); exact G3o.drew ⟨hk, l0, l1, l2, cellV_of c0, cellV_of c1, cellV_of c2, f 0, f 1, f 2⟩
  refine wpAnyH_take (i := 0) (v := ?_) rfl (by kernel_rfl) (by kernel_rfl) (by kernel_rfl) (fun _ _ _ h => h) (Or.inl ⟨by rfl, ?_⟩) (by assumption) ?_
  rotate_left
  · intro w'' hSw; (try dsimp only at hSw); simp only [List.getElem_toArray, List.getElem_cons_succ, List.getElem_cons_zero]; (go_simp <;> with_reducible rfl)
  try simp only [Act.put, List.setIfInBounds_toArray, List.set_cons_zero, List.set_cons_succ, List.getElem_toArray, List.getElem_cons_succ, List.getElem_cons_zero]
  refine wpAnyH_take (i := 1) (v := ?_) rfl (by kernel_rfl) (by kernel_rfl) (by kernel_rfl) (fun _ _ _ h => h) (Or.inl ⟨by rfl, ?_⟩) (by assumption) ?_
  rotate_left
  · intro w'' hSw; (try dsimp only at hSw); simp only [List.getElem_toArray, List.getElem_cons_succ, List.getElem_cons_zero]; (go_simp <;> with_reducible rfl)
  try simp only [Act.put, List.setIfInBounds_toArray, List.set_cons_zero, List.set_cons_succ, List.getElem_toArray, List.getElem_cons_succ, List.getElem_cons_zero]
  refine wpAnyH_take (i := 2) (v := ?_) rfl (by kernel_rfl) (by kernel_rfl) (by kernel_rfl) (fun _ _ _ h => h) (Or.inl ⟨by rfl, ?_⟩) (by assumption) ?_
  rotate_left
  · intro w'' hSw; (try dsimp only at hSw); simp only [List.getElem_toArray, List.getElem_cons_succ, List.getElem_cons_zero]; (go_simp <;> with_reducible rfl)
  try simp only [Act.put, List.setIfInBounds_toArray, List.set_cons_zero, List.set_cons_succ, List.getElem_toArray, List.getElem_cons_succ, List.getElem_cons_zero]
  refine wpAnyH_take (i := 3) (v := ?_) rfl (by kernel_rfl) (by kernel_rfl) (by kernel_rfl) (fun _ _ _ h => h) (Or.inl ⟨by rfl, ?_⟩) (by assumption) ?_
  rotate_left
  · intro w'' hSw; (try dsimp only at hSw); simp only [List.getElem_toArray, List.getElem_cons_succ, List.getElem_cons_zero]; (go_simp <;> with_reducible rfl)
  try simp only [Act.put, List.setIfInBounds_toArray, List.set_cons_zero, List.set_cons_succ, List.getElem_toArray, List.getElem_cons_succ, List.getElem_cons_zero]
  refine wpAnyH_take (i := 4) (v := ?_) rfl (by kernel_rfl) (by kernel_rfl) (by kernel_rfl) (fun _ _ _ h => h) (Or.inl ⟨by rfl, ?_⟩) (by assumption) ?_
  rotate_left
  · intro w'' hSw; (try dsimp only at hSw); simp only [List.getElem_toArray, List.getElem_cons_succ, List.getElem_cons_zero]; (go_simp <;> with_reducible rfl)
  try simp only [Act.put, List.setIfInBounds_toArray, List.set_cons_zero, List.set_cons_succ, List.getElem_toArray, List.getElem_cons_succ, List.getElem_cons_zero]
  refine wpAnyH_take (i := 5) (v := ?_) rfl (by kernel_rfl) (by kernel_rfl) (by kernel_rfl) (fun _ _ _ h => h) (Or.inl ⟨by rfl, ?_⟩) (by assumption) ?_
  rotate_left
  · intro w'' hSw; (try dsimp only at hSw); simp only [List.getElem_toArray, List.getElem_cons_succ, List.getElem_cons_zero]; (go_simp <;> with_reducible rfl)
  try simp only [Act.put, List.setIfInBounds_toArray, List.set_cons_zero, List.set_cons_succ, List.getElem_toArray, List.getElem_cons_succ, List.getElem_cons_zero]
  refine wpAnyH_take (i := 6) (v := ?_) rfl (by kernel_rfl) (by kernel_rfl) (by kernel_rfl) (fun _ _ _ h => h) (Or.inl ⟨by rfl, ?_⟩) (by assumption) ?_
  rotate_left
  · intro w'' hSw; (try dsimp only at hSw); simp only [List.getElem_toArray, List.getElem_cons_succ, List.getElem_cons_zero]; (go_simp <;> with_reducible rfl)
  try simp only [Act.put, List.setIfInBounds_toArray, List.set_cons_zero, List.set_cons_succ, List.getElem_toArray, List.getElem_cons_succ, List.getElem_cons_zero]
  refine wpAnyH_take (i := 7) (v := ?_) rfl (by kernel_rfl) (by kernel_rfl) (by kernel_rfl) (fun _ _ _ h => h) (Or.inl ⟨by rfl, ?_⟩) (by assumption) ?_
  rotate_left
  · intro w'' hSw; (try dsimp only at hSw); simp only [List.getElem_toArray, List.getElem_cons_succ, List.getElem_cons_zero]; (go_simp <;> with_reducible rfl)
  try simp only [Act.put, List.setIfInBounds_toArray, List.set_cons_zero, List.set_cons_succ, List.getElem_toArray, List.getElem_cons_succ, List.getElem_cons_zero]
  refine wpAnyH_take (i := 8) (v := ?_) rfl (by kernel_rfl) (by kernel_rfl) (by kernel_rfl) (fun _ _ _ h => h) (Or.inl ⟨by rfl, ?_⟩) (by assumption) ?_
  rotate_left
  · intro w'' hSw; (try dsimp only at hSw); simp only [List.getElem_toArray, List.getElem_cons_succ, List.getElem_cons_zero]; (go_simp <;> with_reducible rfl)
  try simp only [Act.put, List.setIfInBounds_toArray, List.set_cons_zero, List.set_cons_succ, List.getElem_toArray, List.getElem_cons_succ, List.getElem_cons_zero]
  refine wpAnyH_take (i := 9) (v := ?_) rfl (by kernel_rfl) (by kernel_rfl) (by kernel_rfl) (fun _ _ _ h => h) (Or.inl ⟨by rfl, ?_⟩) (by assumption) ?_
  rotate_left
  · intro w'' hSw; (try dsimp only at hSw); simp only [List.getElem_toArray, List.getElem_cons_succ, List.getElem_cons_zero]; (go_simp <;> with_reducible rfl)
  try simp only [Act.put, List.setIfInBounds_toArray, List.set_cons_zero, List.set_cons_succ, List.getElem_toArray, List.getElem_cons_succ, List.getElem_cons_zero]
  refine wpAnyH_ready (rs := [10]) (by kernel_rfl) (by simp) ?_
  refine AllReadyH.cons rfl (fun K hK => ?_) AllReadyH.nil
  rw [if_pos (by rfl)]
  simp only [List.getElem_toArray, List.getElem_cons_succ, List.getElem_cons_zero]
  go_simp
  refine hK.out _ _ ?_ (fun hHeld2 => ?_)
  · (try dsimp only); exact (G3o.put 2 _ (by omega) (by omega) (G3o.put 1 _ (by omega) (by omega) (G3o.put 0 _ (by omega) (by omega) hHeld1)))
  clear hK K
  try simp only [Act.put, List.setIfInBounds_toArray, List.set_cons_zero, List.set_cons_succ, List.getElem_toArray, List.getElem_cons_succ, List.getElem_cons_zero]
  refine wpAnyH_done (by kernel_rfl) ?_ _
  have hk2 := hHeld2.1
  clear hHeld1 hHeld2
  go_wp2
  obtain ⟨e0, e1, e2⟩ := set3_of (v0 := .int .i64 x) (v1 := .int .i64 y) (v2 := .int .i64 z) c0 c1 c2
  exact bodyPost_ret (v := .agg #[.int .i64 x, .int .i64 y, .int .i64 z]) (by simp [results, Try.results89, go_sem, e0, e1, e2]) rfl ⟨rfl, hk2⟩

/-- The way so far lies in the block behind wB; y is the slice of the two directions. -/
def OS (wB : World) (y : Nat) (m : Ex) (w : World) : Prop :=
  Kept wB w ∧ (w.cell? ⟨wB.heap.size, 0, none⟩ = some (.int .i64 (m.x)) ∧ w.cell? ⟨wB.heap.size, 1, none⟩ = some (.int .i64 (m.y)) ∧ w.cell? ⟨wB.heap.size, 2, none⟩ = some (.int .i64 (m.z))) ∧
  (∀ i, w.frozen? ⟨wB.heap.size, i, none⟩ = false) ∧ w.cell? ⟨y, 0, none⟩ = some (.bool true) ∧ w.cell? ⟨y, 1, none⟩ = some (.bool false)
theorem OS.step {wB w w' : World} {y : Nat} {m : Ex} (k : Kept w w') (h : OS wB y m w) : OS wB y m w' :=
  ⟨h.1.trans k, ⟨kept_cell k h.2.1.1, kept_cell k h.2.1.2.1, kept_cell k h.2.1.2.2⟩, fun i => kept_frozen k (h.2.2.1 i), kept_cell k h.2.2.2.1, kept_cell k h.2.2.2.2⟩
theorem OS.put {wB w : World} {y : Nat} {m : Ex} (h : OS wB y m w) (hne : wB.heap.size ≠ y) (c : Ex) :
    OS wB y c (((w.setCell ⟨wB.heap.size, 0, none⟩ (.int .i64 (c.x))).setCell ⟨wB.heap.size, 1, none⟩ (.int .i64 (c.y))).setCell ⟨wB.heap.size, 2, none⟩ (.int .i64 (c.z))) := by
  have n1 : ∀ i j : Nat, (⟨wB.heap.size, i, none⟩ : Addr) ≠ ⟨y, j, none⟩ := fun i j e => hne (by injection e)
  obtain ⟨hk, ⟨c0, c1, c2⟩, hf, y0, y1⟩ := h
  refine ⟨kept_set3 hk (Nat.le_refl _) _ _ _, set3_of c0 c1 c2, fun i => (World.frozen?_setCell _ _ _ _).trans ((World.frozen?_setCell _ _ _ _).trans ((World.frozen?_setCell _ _ _ _).trans (hf i))), ?_, ?_⟩
  · exact (World.cell?_setCell_other _ _ _ _ (n1 2 0)).trans ((World.cell?_setCell_other _ _ _ _ (n1 1 0)).trans ((World.cell?_setCell_other _ _ _ _ (n1 0 0)).trans y0))
  · exact (World.cell?_setCell_other _ _ _ _ (n1 2 1)).trans ((World.cell?_setCell_other _ _ _ _ (n1 1 1)).trans ((World.cell?_setCell_other _ _ _ _ (n1 0 1)).trans y1))
theorem OS.anew {wB w : World} {y : Nat} {m : Ex} (h : OS wB y m w) (t : TypeId) : OS wB w.heap.size m (w.alloc (.cells #[.bool true, .bool false] t)) := by
  have k : Kept w (w.alloc (.cells #[.bool true, .bool false] t)) := (Kept.refl w).alloc _ _
  exact ⟨h.1.trans k, ⟨kept_cell k h.2.1.1, kept_cell k h.2.1.2.1, kept_cell k h.2.1.2.2⟩, fun i => kept_frozen k (h.2.2.1 i), by go_simp, by go_simp⟩
theorem OS.ne {wB w : World} {y : Nat} {m : Ex} (h : OS wB y m w) : wB.heap.size ≠ w.heap.size := Nat.ne_of_lt (World.block_lt_of_cell? _ _ h.2.1.1)
theorem row_set0 {w : World} {b : Nat} (v : Int) (c0 : w.cell? ⟨b, 0, none⟩ = some (.int .i64 0)) (c1 : w.cell? ⟨b, 1, none⟩ = some (.int .i64 0)) (c2 : w.cell? ⟨b, 2, none⟩ = some (.int .i64 0)) : Row3 b v 0 0 (w.setCell ⟨b, 0, none⟩ (.int .i64 v)).drew :=
  ⟨kept_cell (Kept.refl _).drew (World.cell?_setCell_same _ _ _ c0), kept_cell (Kept.refl _).drew ((World.cell?_setCell_other _ _ _ _ (fun e => by injection e with _ e; exact absurd e (by decide))).trans c1), kept_cell (Kept.refl _).drew ((World.cell?_setCell_other _ _ _ _ (fun e => by injection e with _ e; exact absurd e (by decide))).trans c2)⟩
theorem row_set1 {w : World} {b : Nat} (v : Int) (c0 : w.cell? ⟨b, 0, none⟩ = some (.int .i64 0)) (c1 : w.cell? ⟨b, 1, none⟩ = some (.int .i64 0)) (c2 : w.cell? ⟨b, 2, none⟩ = some (.int .i64 0)) : Row3 b 0 v 0 (w.setCell ⟨b, 1, none⟩ (.int .i64 v)).drew :=
  ⟨kept_cell (Kept.refl _).drew ((World.cell?_setCell_other _ _ _ _ (fun e => by injection e with _ e; exact absurd e (by decide))).trans c0), kept_cell (Kept.refl _).drew (World.cell?_setCell_same _ _ _ c1), kept_cell (Kept.refl _).drew ((World.cell?_setCell_other _ _ _ _ (fun e => by injection e with _ e; exact absurd e (by decide))).trans c2)⟩
theorem row_set2 {w : World} {b : Nat} (v : Int) (c0 : w.cell? ⟨b, 0, none⟩ = some (.int .i64 0)) (c1 : w.cell? ⟨b, 1, none⟩ = some (.int .i64 0)) (c2 : w.cell? ⟨b, 2, none⟩ = some (.int .i64 0)) : Row3 b 0 0 v (w.setCell ⟨b, 2, none⟩ (.int .i64 v)).drew :=
  ⟨kept_cell (Kept.refl _).drew ((World.cell?_setCell_other _ _ _ _ (fun e => by injection e with _ e; exact absurd e (by decide))).trans c0), kept_cell (Kept.refl _).drew ((World.cell?_setCell_other _ _ _ _ (fun e => by injection e with _ e; exact absurd e (by decide))).trans c1), kept_cell (Kept.refl _).drew (World.cell?_setCell_same _ _ _ c2)⟩
set_option maxHeartbeats 16000000 in
theorem refOut_calls (a0 a1 a2 a3 a4 a5 b0 b1 b2 b3 b4 b5 : Int) (w : World) : Calls Try.prog 85 #[.agg #[.int .i64 a0, .int .i64 a1, .int .i64 a2, .int .i64 a3, .int .i64 a4, .int .i64 a5], .agg #[.int .i64 b0, .int .i64 b1, .int .i64 b2, .int .i64 b3, .int .i64 b4, .int .i64 b5]] w fun e w' => e = .returned (.tuple #[.agg #[.int .i64 ((outE a0 a1 a2 a3 a4 a5 b0 b1 b2 b3 b4 b5).x), .int .i64 ((outE a0 a1 a2 a3 a4 a5 b0 b1 b2 b3 b4 b5).y), .int .i64 ((outE a0 a1 a2 a3 a4 a5 b0 b1 b2 b3 b4 b5).z)], .int .i64 ((outE a0 a1 a2 a3 a4 a5 b0 b1 b2 b3 b4 b5).d)]) ∧ Kept w w' := by
  go_enter Try.func85, Try.ntmps85
  go_wp2
  refine wp_region_held_drew (S := (fun w' => Kept w w' ∧ w'.cell? ⟨w.heap.size, 0, none⟩ = some (.int .i64 a0) ∧ w'.cell? ⟨w.heap.size, 1, none⟩ = some (.int .i64 a1) ∧ w'.cell? ⟨w.heap.size, 2, none⟩ = some (.int .i64 a2) ∧ w'.cell? ⟨w.heap.size, 3, none⟩ = some (.int .i64 a3) ∧ w'.cell? ⟨w.heap.size, 4, none⟩ = some (.int .i64 a4) ∧ w'.cell? ⟨w.heap.size, 5, none⟩ = some (.int .i64 a5) ∧ w'.cell? ⟨w.heap.size + 1, 0, none⟩ = some (.int .i64 b0) ∧ w'.cell? ⟨w.heap.size + 1, 1, none⟩ = some (.int .i64 b1) ∧ w'.cell? ⟨w.heap.size + 1, 2, none⟩ = some (.int .i64 b2) ∧ w'.cell? ⟨w.heap.size + 1, 3, none⟩ = some (.int .i64 b3) ∧ w'.cell? ⟨w.heap.size + 1, 4, none⟩ = some (.int .i64 b4) ∧ w'.cell? ⟨w.heap.size + 1, 5, none⟩ = some (.int .i64 b5))) (by kernel_rfl) ?_ (fun hHeld1 => ?_)
  · (try dsimp only); exact G66.drew (by refine ⟨(((Kept.refl w).alloc _ _).alloc _ _).alloc _ _, ?_, ?_, ?_, ?_, ?_, ?_, ?_, ?_, ?_, ?_, ?_, ?_⟩ <;> go_simp)
  refine wpAnyH_take (i := 0) (v := ?_) rfl (by kernel_rfl) (by kernel_rfl) (by kernel_rfl) (fun _ _ _ h => h) (Or.inl ⟨by rfl, ?_⟩) (by assumption) ?_
  rotate_left
  · intro w'' hSw; (try dsimp only at hSw); simp only [List.getElem_toArray, List.getElem_cons_succ, List.getElem_cons_zero]; (go_simp <;> with_reducible rfl)
  try simp only [Act.put, List.setIfInBounds_toArray, List.set_cons_zero, List.set_cons_succ, List.getElem_toArray, List.getElem_cons_succ, List.getElem_cons_zero]
  refine wpAnyH_take (i := 1) (v := ?_) rfl (by kernel_rfl) (by kernel_rfl) (by kernel_rfl) (fun _ _ _ h => h) (Or.inl ⟨by rfl, ?_⟩) (by assumption) ?_
  rotate_left
  · intro w'' hSw; (try dsimp only at hSw); simp only [List.getElem_toArray, List.getElem_cons_succ, List.getElem_cons_zero]; (go_simp <;> with_reducible rfl)
  try simp only [Act.put, List.setIfInBounds_toArray, List.set_cons_zero, List.set_cons_succ, List.getElem_toArray, List.getElem_cons_succ, List.getElem_cons_zero]
  refine wpAnyH_take (i := 3) (v := ?_) rfl (by kernel_rfl) (by kernel_rfl) (by kernel_rfl) (fun _ _ _ h => h) (Or.inl ⟨by rfl, ?_⟩) (by assumption) ?_
  rotate_left
  · intro w'' hSw; (try dsimp only at hSw); simp only [List.getElem_toArray, List.getElem_cons_succ, List.getElem_cons_zero]; (go_simp <;> with_reducible rfl)
  try simp only [Act.put, List.setIfInBounds_toArray, List.set_cons_zero, List.set_cons_succ, List.getElem_toArray, List.getElem_cons_succ, List.getElem_cons_zero]
  refine wpAnyH_take (i := 4) (v := ?_) rfl (by kernel_rfl) (by kernel_rfl) (by kernel_rfl) (fun _ _ _ h => h) (Or.inl ⟨by rfl, ?_⟩) (by assumption) ?_
  rotate_left
  · intro w'' hSw; (try dsimp only at hSw); simp only [List.getElem_toArray, List.getElem_cons_succ, List.getElem_cons_zero]; (go_simp <;> with_reducible rfl)
  try simp only [Act.put, List.setIfInBounds_toArray, List.set_cons_zero, List.set_cons_succ, List.getElem_toArray, List.getElem_cons_succ, List.getElem_cons_zero]
  refine wpAnyH_take (i := 6) (v := ?_) rfl (by kernel_rfl) (by kernel_rfl) (by kernel_rfl) (fun _ _ _ h => h) (Or.inl ⟨by rfl, ?_⟩) (by assumption) ?_
  rotate_left
  · intro w'' hSw; (try dsimp only at hSw); simp only [List.getElem_toArray, List.getElem_cons_succ, List.getElem_cons_zero]; (go_simp <;> with_reducible rfl)
  try simp only [Act.put, List.setIfInBounds_toArray, List.set_cons_zero, List.set_cons_succ, List.getElem_toArray, List.getElem_cons_succ, List.getElem_cons_zero]
  refine wpAnyH_take (i := 7) (v := ?_) rfl (by kernel_rfl) (by kernel_rfl) (by kernel_rfl) (fun _ _ _ h => h) (Or.inl ⟨by rfl, ?_⟩) (by assumption) ?_
  rotate_left
  · intro w'' hSw; (try dsimp only at hSw); simp only [List.getElem_toArray, List.getElem_cons_succ, List.getElem_cons_zero]; (go_simp <;> with_reducible rfl)
  try simp only [Act.put, List.setIfInBounds_toArray, List.set_cons_zero, List.set_cons_succ, List.getElem_toArray, List.getElem_cons_succ, List.getElem_cons_zero]
  refine wpAnyH_take (i := 9) (v := ?_) rfl (by kernel_rfl) (by kernel_rfl) (by kernel_rfl) (fun _ _ _ h => h) (Or.inl ⟨by rfl, ?_⟩) (by assumption) ?_
  rotate_left
  · intro w'' hSw; (try dsimp only at hSw); simp only [List.getElem_toArray, List.getElem_cons_succ, List.getElem_cons_zero]; (go_simp <;> with_reducible rfl)
  try simp only [Act.put, List.setIfInBounds_toArray, List.set_cons_zero, List.set_cons_succ, List.getElem_toArray, List.getElem_cons_succ, List.getElem_cons_zero]
  refine wpAnyH_take (i := 10) (v := ?_) rfl (by kernel_rfl) (by kernel_rfl) (by kernel_rfl) (fun _ _ _ h => h) (Or.inl ⟨by rfl, ?_⟩) (by assumption) ?_
  rotate_left
  · intro w'' hSw; (try dsimp only at hSw); simp only [List.getElem_toArray, List.getElem_cons_succ, List.getElem_cons_zero]; (go_simp <;> with_reducible rfl)
  try simp only [Act.put, List.setIfInBounds_toArray, List.set_cons_zero, List.set_cons_succ, List.getElem_toArray, List.getElem_cons_succ, List.getElem_cons_zero]
  refine wpAnyH_ready (rs := [2]) (by kernel_rfl) (by simp) ?_
  refine AllReadyH.cons rfl (fun K hK => ?_) AllReadyH.nil
  rw [if_pos (by rfl)]
  simp only [List.getElem_toArray, List.getElem_cons_succ, List.getElem_cons_zero]
  go_simp
  (go_at_call 69; refine (refParts_calls _ _ _ _).mono ?_; rintro e w1 ⟨q0, rfl, k1, r0⟩)
  try go_wp2_with fail
  refine hK.out _ _ ?_ (fun hHeld2 => ?_)
  · (try dsimp only); exact G66.step k1 hHeld1
  clear hK K hHeld1
  try simp only [Act.put, List.setIfInBounds_toArray, List.set_cons_zero, List.set_cons_succ, List.getElem_toArray, List.getElem_cons_succ, List.getElem_cons_zero]
  refine wpAnyH_ready (rs := [5]) (by kernel_rfl) (by simp) ?_
  refine AllReadyH.cons rfl (fun K hK => ?_) AllReadyH.nil
  rw [if_pos (by rfl)]
  simp only [List.getElem_toArray, List.getElem_cons_succ, List.getElem_cons_zero]
  go_simp
  (go_at_call 69; refine (refParts_calls _ _ _ _).mono ?_; rintro e w2 ⟨q1, rfl, k2, r1⟩)
  try go_wp2_with fail
  refine hK.out _ _ ?_ (fun hHeld3 => ?_)
  · (try dsimp only); exact G66.step k2 hHeld2
  clear hK K hHeld2
  try simp only [Act.put, List.setIfInBounds_toArray, List.set_cons_zero, List.set_cons_succ, List.getElem_toArray, List.getElem_cons_succ, List.getElem_cons_zero]
  refine wpAnyH_ready (rs := [8]) (by kernel_rfl) (by simp) ?_
  refine AllReadyH.cons rfl (fun K hK => ?_) AllReadyH.nil
  rw [if_pos (by rfl)]
  simp only [List.getElem_toArray, List.getElem_cons_succ, List.getElem_cons_zero]
  go_simp
  (go_at_call 69; refine (refParts_calls _ _ _ _).mono ?_; rintro e w3 ⟨q2, rfl, k3, r2⟩)
  try go_wp2_with fail
  refine hK.out _ _ ?_ (fun hHeld4 => ?_)
  · (try dsimp only); exact G66.step k3 hHeld3
  clear hK K hHeld3
  try simp only [Act.put, List.setIfInBounds_toArray, List.set_cons_zero, List.set_cons_succ, List.getElem_toArray, List.getElem_cons_succ, List.getElem_cons_zero]
  refine wpAnyH_ready (rs := [11]) (by kernel_rfl) (by simp) ?_
  refine AllReadyH.cons rfl (fun K hK => ?_) AllReadyH.nil
  rw [if_pos (by rfl)]
  simp only [List.getElem_toArray, List.getElem_cons_succ, List.getElem_cons_zero]
  go_simp
  (go_at_call 69; refine (refParts_calls _ _ _ _).mono ?_; rintro e w4 ⟨q3, rfl, k4, r3⟩)
  try go_wp2_with fail
  refine hK.out _ _ ?_ (fun hHeld5 => ?_)
  · (try dsimp only); exact G66.step k4 hHeld4
  clear hK K hHeld4
  try simp only [Act.put, List.setIfInBounds_toArray, List.set_cons_zero, List.set_cons_succ, List.getElem_toArray, List.getElem_cons_succ, List.getElem_cons_zero]
  refine wpAnyH_take (i := 12) (v := ?_) rfl (by kernel_rfl) (by kernel_rfl) (by kernel_rfl) (fun _ _ _ h => h) (Or.inl ⟨by rfl, ?_⟩) (by assumption) ?_
  rotate_left
  · intro w'' hSw; (try dsimp only at hSw); simp only [List.getElem_toArray, List.getElem_cons_succ, List.getElem_cons_zero]; (go_simp <;> with_reducible rfl)
  try simp only [Act.put, List.setIfInBounds_toArray, List.set_cons_zero, List.set_cons_succ, List.getElem_toArray, List.getElem_cons_succ, List.getElem_cons_zero]
  refine wpAnyH_take (i := 13) (v := ?_) rfl (by kernel_rfl) (by kernel_rfl) (by kernel_rfl) (fun _ _ _ h => h) (Or.inl ⟨by rfl, ?_⟩) (by assumption) ?_
  rotate_left
  · intro w'' hSw; (try dsimp only at hSw); simp only [List.getElem_toArray, List.getElem_cons_succ, List.getElem_cons_zero]; (go_simp <;> with_reducible rfl)
  try simp only [Act.put, List.setIfInBounds_toArray, List.set_cons_zero, List.set_cons_succ, List.getElem_toArray, List.getElem_cons_succ, List.getElem_cons_zero]
  refine wpAnyH_take (i := 14) (v := ?_) rfl (by kernel_rfl) (by kernel_rfl) (by kernel_rfl) (fun _ _ _ h => h) (Or.inl ⟨by rfl, ?_⟩) (by assumption) ?_
  rotate_left
  · intro w'' hSw; (try dsimp only at hSw); simp only [List.getElem_toArray, List.getElem_cons_succ, List.getElem_cons_zero]; (go_simp <;> with_reducible rfl)
  try simp only [Act.put, List.setIfInBounds_toArray, List.set_cons_zero, List.set_cons_succ, List.getElem_toArray, List.getElem_cons_succ, List.getElem_cons_zero]
  refine wpAnyH_take (i := 15) (v := ?_) rfl (by kernel_rfl) (by kernel_rfl) (by kernel_rfl) (fun _ _ _ h => h) (Or.inl ⟨by rfl, ?_⟩) (by assumption) ?_
  rotate_left
  · intro w'' hSw; (try dsimp only at hSw); simp only [List.getElem_toArray, List.getElem_cons_succ, List.getElem_cons_zero]; (go_simp <;> with_reducible rfl)
  try simp only [Act.put, List.setIfInBounds_toArray, List.set_cons_zero, List.set_cons_succ, List.getElem_toArray, List.getElem_cons_succ, List.getElem_cons_zero]
  refine wpAnyH_done (by kernel_rfl) ?_ _
  have hk : Kept w w4 := hHeld5.1
  have rc0 : Aside (w4.cell? ⟨w.heap.size + 1 + 1, 0, none⟩ = some (.int .i64 0)) := kept_cell k4 (kept_cell k3 (kept_cell k2 (kept_cell k1 (by go_simp))))
  have rc1 : Aside (w4.cell? ⟨w.heap.size + 1 + 1, 1, none⟩ = some (.int .i64 0)) := kept_cell k4 (kept_cell k3 (kept_cell k2 (kept_cell k1 (by go_simp))))
  have rc2 : Aside (w4.cell? ⟨w.heap.size + 1 + 1, 2, none⟩ = some (.int .i64 0)) := kept_cell k4 (kept_cell k3 (kept_cell k2 (kept_cell k1 (by go_simp))))
  have rf : Aside (∀ i, w4.frozen? ⟨w.heap.size + 1 + 1, i, none⟩ = false) := fun i => kept_frozen k4 (kept_frozen k3 (kept_frozen k2 (kept_frozen k1 (by go_simp))))
  have R0 : Aside (Row3 q0 a0 a1 a2 w4) := (r0.step k2).step (k3.trans k4)
  have R1 : Aside (Row3 q1 a3 a4 a5 w4) := r1.step (k3.trans k4)
  have R2 : Aside (Row3 q2 b0 b1 b2 w4) := r2.step k4
  have R3 : Aside (Row3 q3 b3 b4 b5 w4) := r3
  clear r0 r1 r2 r3 k1 k2 k3 k4 hHeld5
  go_wp2
  refine wp_loop_rounds 4 ?_
  rw [rounds_succ]
  go_wp2
  have HO : OS w4 (w4.heap.size + 1) ⟨0, 0, 0, 0⟩ ((w4.alloc (.cells #[.int .i64 0, .int .i64 0, .int .i64 0] 26)).alloc (.cells #[.bool true, .bool false] 4)) := ⟨((Kept.refl _).alloc _ _).alloc _ _, ⟨by go_simp, by go_simp, by go_simp⟩, fun i => by go_simp, by go_simp, by go_simp⟩
  obtain ⟨y0, hy0⟩ : ∃ y, y = w4.heap.size + 1 := ⟨_, rfl⟩
  have hne : w4.heap.size ≠ y0 := by omega
  rw [← hy0] at HO
  simp only [← hy0]
  clear hy0
  generalize ((w4.alloc (.cells #[.int .i64 0, .int .i64 0, .int .i64 0] 26)).alloc (.cells #[.bool true, .bool false] 4)) = wk0 at HO ⊢
  refine wp_loop_rounds 3 ?_
  rw [rounds_succ]
  go_upto_block 3 with fail
  go_cut [11, 12] from 36 (fun s11 s12 wc => ∃ m : Ex, s11 = .int .i64 m.d ∧ s12 = .bool true ∧ OS w4 y0 m wc ∧ Aside (m = (pickE ⟨65536, 0, 0, sub a3 b0⟩ ⟨-65536, 0, 0, sub b3 a0⟩ ⟨0, 65536, 0, sub a4 b1⟩ ⟨0, -65536, 0, sub b4 a1⟩ ⟨0, 0, 65536, sub a5 b2⟩ ⟨0, 0, -65536, sub b5 a2⟩ 0)))
  case first =>
    have xA := kept_cell HO.1 R1.out.1
    have xB := kept_cell HO.1 R2.out.1
    have HO0 : Aside (OS w4 y0 ⟨0, 0, 0, 0⟩ wk0) := HO
    obtain ⟨_, _, _, yc0, yc1⟩ := HO
    go_wp2
    have z0 : (wk0.alloc (.cells #[.int .i64 0, .int .i64 0, .int .i64 0] 3)).cell? ⟨wk0.heap.size, 0, none⟩ = some (.int .i64 0) := by go_simp
    have z1 : (wk0.alloc (.cells #[.int .i64 0, .int .i64 0, .int .i64 0] 3)).cell? ⟨wk0.heap.size, 1, none⟩ = some (.int .i64 0) := by go_simp
    have z2 : (wk0.alloc (.cells #[.int .i64 0, .int .i64 0, .int .i64 0] 3)).cell? ⟨wk0.heap.size, 2, none⟩ = some (.int .i64 0) := by go_simp
    have zf : (wk0.alloc (.cells #[.int .i64 0, .int .i64 0, .int .i64 0] 3)).frozen? ⟨wk0.heap.size, 0, none⟩ = false := by go_simp
    have kz : Kept wk0 (wk0.alloc (.cells #[.int .i64 0, .int .i64 0, .int .i64 0] 3)) := (Kept.refl _).alloc _ _
    generalize (wk0.alloc (.cells #[.int .i64 0, .int .i64 0, .int .i64 0] 3)) = wz at z0 z1 z2 zf kz ⊢
    refine wp_region_held_drew (S := (fun w' => Kept wk0 w' ∧ w'.cell? ⟨q1, 0, none⟩ = some (.int .i64 a3) ∧ w'.cell? ⟨q2, 0, none⟩ = some (.int .i64 b0))) (by kernel_rfl) ?_ (fun hHeld1 => ?_)
    · (try dsimp only); exact ⟨kz.drew, kept_cell kz.drew xA, kept_cell kz.drew xB⟩
    refine wpAnyH_take (i := 0) (v := ?_) rfl (by kernel_rfl) (by kernel_rfl) (by kernel_rfl) (fun _ _ _ h => h) (Or.inl ⟨by rfl, ?_⟩) (by assumption) ?_
    rotate_left
    · intro w'' hSw; (try dsimp only at hSw); simp only [List.getElem_toArray, List.getElem_cons_succ, List.getElem_cons_zero]; (go_simp <;> with_reducible rfl)
    try simp only [Act.put, List.setIfInBounds_toArray, List.set_cons_zero, List.set_cons_succ, List.getElem_toArray, List.getElem_cons_succ, List.getElem_cons_zero]
    refine wpAnyH_take (i := 1) (v := ?_) rfl (by kernel_rfl) (by kernel_rfl) (by kernel_rfl) (fun _ _ _ h => h) (Or.inl ⟨by rfl, ?_⟩) (by assumption) ?_
    rotate_left
    · intro w'' hSw; (try dsimp only at hSw); simp only [List.getElem_toArray, List.getElem_cons_succ, List.getElem_cons_zero]; (go_simp <;> with_reducible rfl)
    try simp only [Act.put, List.setIfInBounds_toArray, List.set_cons_zero, List.set_cons_succ, List.getElem_toArray, List.getElem_cons_succ, List.getElem_cons_zero]
    refine wpAnyH_take (i := 2) (v := ?_) rfl (by kernel_rfl) (by kernel_rfl) (by kernel_rfl) (fun _ _ _ h => h) (Or.inl ⟨by rfl, ?_⟩) (by assumption) ?_
    rotate_left
    · intro w'' hSw; (try dsimp only at hSw); simp only [List.getElem_toArray, List.getElem_cons_succ, List.getElem_cons_zero]; (go_simp <;> with_reducible rfl)
    try simp only [Act.put, List.setIfInBounds_toArray, List.set_cons_zero, List.set_cons_succ, List.getElem_toArray, List.getElem_cons_succ, List.getElem_cons_zero]
    refine wpAnyH_take (i := 3) (v := ?_) rfl (by kernel_rfl) (by kernel_rfl) (by kernel_rfl) (fun _ _ _ h => h) (Or.inl ⟨by rfl, ?_⟩) (by assumption) ?_
    rotate_left
    · intro w'' hSw; (try dsimp only at hSw); simp only [List.getElem_toArray, List.getElem_cons_succ, List.getElem_cons_zero]; (go_simp <;> with_reducible rfl)
    try simp only [Act.put, List.setIfInBounds_toArray, List.set_cons_zero, List.set_cons_succ, List.getElem_toArray, List.getElem_cons_succ, List.getElem_cons_zero]
    refine wpAnyH_take (i := 4) (v := ?_) rfl (by kernel_rfl) (by kernel_rfl) (by kernel_rfl) (fun _ _ _ h => h) (Or.inl ⟨by rfl, ?_⟩) (by assumption) ?_
    rotate_left
    · intro w'' hSw; (try dsimp only at hSw); simp only [List.getElem_toArray, List.getElem_cons_succ, List.getElem_cons_zero]; (go_simp <;> with_reducible rfl)
    try simp only [Act.put, List.setIfInBounds_toArray, List.set_cons_zero, List.set_cons_succ, List.getElem_toArray, List.getElem_cons_succ, List.getElem_cons_zero]
    refine wpAnyH_take (i := 5) (v := ?_) rfl (by kernel_rfl) (by kernel_rfl) (by kernel_rfl) (fun _ _ _ h => h) (Or.inl ⟨by rfl, ?_⟩) (by assumption) ?_
    rotate_left
    · intro w'' hSw; (try dsimp only at hSw); simp only [List.getElem_toArray, List.getElem_cons_succ, List.getElem_cons_zero]; (go_simp <;> with_reducible rfl)
    try simp only [Act.put, List.setIfInBounds_toArray, List.set_cons_zero, List.set_cons_succ, List.getElem_toArray, List.getElem_cons_succ, List.getElem_cons_zero]
    refine wpAnyH_take (i := 6) (v := ?_) rfl (by kernel_rfl) (by kernel_rfl) (by kernel_rfl) (fun _ _ _ h => h) (Or.inl ⟨by rfl, ?_⟩) (by assumption) ?_
    rotate_left
    · intro w'' hSw; (try dsimp only at hSw); simp only [List.getElem_toArray, List.getElem_cons_succ, List.getElem_cons_zero]; (go_simp <;> with_reducible rfl)
    try simp only [Act.put, List.setIfInBounds_toArray, List.set_cons_zero, List.set_cons_succ, List.getElem_toArray, List.getElem_cons_succ, List.getElem_cons_zero]
    refine wpAnyH_take (i := 7) (v := ?_) rfl (by kernel_rfl) (by kernel_rfl) (by kernel_rfl) (fun _ _ _ h => h) (Or.inl ⟨by rfl, ?_⟩) (by assumption) ?_
    rotate_left
    · intro w'' hSw; (try dsimp only at hSw); simp only [List.getElem_toArray, List.getElem_cons_succ, List.getElem_cons_zero]; (go_simp <;> with_reducible rfl)
    try simp only [Act.put, List.setIfInBounds_toArray, List.set_cons_zero, List.set_cons_succ, List.getElem_toArray, List.getElem_cons_succ, List.getElem_cons_zero]
    refine wpAnyH_take (i := 8) (v := ?_) rfl (by kernel_rfl) (by kernel_rfl) (by kernel_rfl) (fun _ _ _ h => h) (Or.inl ⟨by rfl, ?_⟩) (by assumption) ?_
    rotate_left
    · intro w'' hSw; (try dsimp only at hSw); simp only [List.getElem_toArray, List.getElem_cons_succ, List.getElem_cons_zero]; (go_simp <;> with_reducible rfl)
    try simp only [Act.put, List.setIfInBounds_toArray, List.set_cons_zero, List.set_cons_succ, List.getElem_toArray, List.getElem_cons_succ, List.getElem_cons_zero]
    refine wpAnyH_take (i := 9) (v := ?_) rfl (by kernel_rfl) (by kernel_rfl) (by kernel_rfl) (fun _ _ _ h => h) (Or.inl ⟨by rfl, ?_⟩) (by assumption) ?_
    rotate_left
    · intro w'' hSw; (try dsimp only at hSw); simp only [List.getElem_toArray, List.getElem_cons_succ, List.getElem_cons_zero]; (go_simp <;> with_reducible rfl)
    try simp only [Act.put, List.setIfInBounds_toArray, List.set_cons_zero, List.set_cons_succ, List.getElem_toArray, List.getElem_cons_succ, List.getElem_cons_zero]
    refine wpAnyH_ready (rs := [10]) (by kernel_rfl) (by simp) ?_
    refine AllReadyH.cons rfl (fun K hK => ?_) AllReadyH.nil
    rw [if_pos (by rfl)]
    simp only [List.getElem_toArray, List.getElem_cons_succ, List.getElem_cons_zero]
    go_simp
    (go_at_call 15; refine (refSub_calls _ _ _).mono ?_; rintro e w1 ⟨rfl, rfl⟩)
    try go_wp2_with fail
    refine hK.out _ _ ?_ (fun hHeld2 => ?_)
    · (try dsimp only); exact hHeld1
    clear hK K hHeld1
    try simp only [Act.put, List.setIfInBounds_toArray, List.set_cons_zero, List.set_cons_succ, List.getElem_toArray, List.getElem_cons_succ, List.getElem_cons_zero]
    refine wpAnyH_take (i := 11) (v := ?_) rfl (by kernel_rfl) (by kernel_rfl) (by kernel_rfl) (fun _ _ _ h => h) (Or.inl ⟨by rfl, ?_⟩) (by assumption) ?_
    rotate_left
    · intro w'' hSw; (try dsimp only at hSw); simp only [List.getElem_toArray, List.getElem_cons_succ, List.getElem_cons_zero]; (go_simp <;> with_reducible rfl)
    try simp only [Act.put, List.setIfInBounds_toArray, List.set_cons_zero, List.set_cons_succ, List.getElem_toArray, List.getElem_cons_succ, List.getElem_cons_zero]
    refine wpAnyH_ready (rs := [12]) (by kernel_rfl) (by simp) ?_
    refine AllReadyH.cons rfl (fun K hK => ?_) AllReadyH.nil
    rw [if_pos (by rfl)]
    simp only [List.getElem_toArray, List.getElem_cons_succ, List.getElem_cons_zero]
    go_simp
    refine hK.out _ _ ?_ (fun hHeld3 => ?_)
    · (try dsimp only); exact ⟨(hHeld2.1.setCell (p := ⟨wk0.heap.size, 0, none⟩) (Nat.le_refl _) _), kept_cell (hHeld2.1.setCell (p := ⟨wk0.heap.size, 0, none⟩) (Nat.le_refl _) _) xA, kept_cell (hHeld2.1.setCell (p := ⟨wk0.heap.size, 0, none⟩) (Nat.le_refl _) _) xB⟩
    clear hK K
    try simp only [Act.put, List.setIfInBounds_toArray, List.set_cons_zero, List.set_cons_succ, List.getElem_toArray, List.getElem_cons_succ, List.getElem_cons_zero]
    refine wpAnyH_take (i := 13) (v := ?_) rfl (by kernel_rfl) (by kernel_rfl) (by kernel_rfl) (fun _ _ _ h => h) (Or.inl ⟨by rfl, ?_⟩) (by assumption) ?_
    rotate_left
    · intro w'' hSw; (try dsimp only at hSw); simp only [List.getElem_toArray, List.getElem_cons_succ, List.getElem_cons_zero]; (go_simp <;> with_reducible rfl)
    try simp only [Act.put, List.setIfInBounds_toArray, List.set_cons_zero, List.set_cons_succ, List.getElem_toArray, List.getElem_cons_succ, List.getElem_cons_zero]
    refine wpAnyH_done (by kernel_rfl) ?_ _
    have kq := hHeld3.1
    have rz := row_set0 65536 z0 z1 z2
    generalize (wz.setCell ⟨wk0.heap.size, 0, none⟩ (.int .i64 65536)).drew = wq at kq rz ⊢
    clear hHeld2 hHeld3 z0 z1 z2 zf kz xA xB yc0 yc1
    go_wp2_with fail
    refine (of_calls wk0.heap.size _ _ _ _ rz).mono ?_; rintro e w5 ⟨rfl, k5⟩
    have HO5 : Aside (OS w4 y0 ⟨0, 0, 0, 0⟩ w5) := HO0.out.step (kq.trans k5)
    obtain ⟨_, ⟨c0, c1, c2⟩, cf, _, _⟩ := HO5.out
    have cf0 := cf 0
    have cf1 := cf 1
    have cf2 := cf 2
    clear cf
    go_wp2
    go_meet
    case rel => exact ⟨⟨65536, 0, 0, sub a3 b0⟩, rfl, rfl, HO5.out.put hne ⟨65536, 0, 0, sub a3 b0⟩, rfl⟩
  case rest =>
    clear HO
    obtain ⟨m, rfl, rfl, HO, hm⟩ := hcut
    obtain ⟨wr0, hwr⟩ : ∃ x, x = wc := ⟨_, rfl⟩
    subst hwr
    go_wp2
    rw [rounds_succ]
    go_upto_block 3 with fail
    go_cut [11, 12] from 36 (fun s11 s12 wc => ∃ m : Ex, s11 = .int .i64 m.d ∧ s12 = .bool true ∧ OS w4 y0 m wc ∧ Aside (m = (pickE ⟨65536, 0, 0, sub a3 b0⟩ ⟨-65536, 0, 0, sub b3 a0⟩ ⟨0, 65536, 0, sub a4 b1⟩ ⟨0, -65536, 0, sub b4 a1⟩ ⟨0, 0, 65536, sub a5 b2⟩ ⟨0, 0, -65536, sub b5 a2⟩ 1)))
    case first =>
      have xA := kept_cell HO.1 R3.out.1
      have xB := kept_cell HO.1 R0.out.1
      have HO0 : Aside (OS w4 y0 m wr0) := HO
      obtain ⟨_, _, _, yc0, yc1⟩ := HO
      go_wp2
      have z0 : (wr0.alloc (.cells #[.int .i64 0, .int .i64 0, .int .i64 0] 3)).cell? ⟨wr0.heap.size, 0, none⟩ = some (.int .i64 0) := by go_simp
      have z1 : (wr0.alloc (.cells #[.int .i64 0, .int .i64 0, .int .i64 0] 3)).cell? ⟨wr0.heap.size, 1, none⟩ = some (.int .i64 0) := by go_simp
      have z2 : (wr0.alloc (.cells #[.int .i64 0, .int .i64 0, .int .i64 0] 3)).cell? ⟨wr0.heap.size, 2, none⟩ = some (.int .i64 0) := by go_simp
      have zf : (wr0.alloc (.cells #[.int .i64 0, .int .i64 0, .int .i64 0] 3)).frozen? ⟨wr0.heap.size, 0, none⟩ = false := by go_simp
      have kz : Kept wr0 (wr0.alloc (.cells #[.int .i64 0, .int .i64 0, .int .i64 0] 3)) := (Kept.refl _).alloc _ _
      generalize (wr0.alloc (.cells #[.int .i64 0, .int .i64 0, .int .i64 0] 3)) = wz at z0 z1 z2 zf kz ⊢
      refine wp_region_held_drew (S := (fun w' => Kept wr0 w' ∧ w'.cell? ⟨q3, 0, none⟩ = some (.int .i64 b3) ∧ w'.cell? ⟨q0, 0, none⟩ = some (.int .i64 a0))) (by kernel_rfl) ?_ (fun hHeld1 => ?_)
      · (try dsimp only); exact ⟨kz.drew, kept_cell kz.drew xA, kept_cell kz.drew xB⟩
      refine wpAnyH_take (i := 0) (v := ?_) rfl (by kernel_rfl) (by kernel_rfl) (by kernel_rfl) (fun _ _ _ h => h) (Or.inl ⟨by rfl, ?_⟩) (by assumption) ?_
      rotate_left
      · intro w'' hSw; (try dsimp only at hSw); simp only [List.getElem_toArray, List.getElem_cons_succ, List.getElem_cons_zero]; (go_simp <;> with_reducible rfl)
      try simp only [Act.put, List.setIfInBounds_toArray, List.set_cons_zero, List.set_cons_succ, List.getElem_toArray, List.getElem_cons_succ, List.getElem_cons_zero]
      refine wpAnyH_take (i := 1) (v := ?_) rfl (by kernel_rfl) (by kernel_rfl) (by kernel_rfl) (fun _ _ _ h => h) (Or.inl ⟨by rfl, ?_⟩) (by assumption) ?_
      rotate_left
      · intro w'' hSw; (try dsimp only at hSw); simp only [List.getElem_toArray, List.getElem_cons_succ, List.getElem_cons_zero]; (go_simp <;> with_reducible rfl)
      try simp only [Act.put, List.setIfInBounds_toArray, List.set_cons_zero, List.set_cons_succ, List.getElem_toArray, List.getElem_cons_succ, List.getElem_cons_zero]
      refine wpAnyH_take (i := 2) (v := ?_) rfl (by kernel_rfl) (by kernel_rfl) (by kernel_rfl) (fun _ _ _ h => h) (Or.inl ⟨by rfl, ?_⟩) (by assumption) ?_
      rotate_left
      · intro w'' hSw; (try dsimp only at hSw); simp only [List.getElem_toArray, List.getElem_cons_succ, List.getElem_cons_zero]; (go_simp <;> with_reducible rfl)
      try simp only [Act.put, List.setIfInBounds_toArray, List.set_cons_zero, List.set_cons_succ, List.getElem_toArray, List.getElem_cons_succ, List.getElem_cons_zero]
      refine wpAnyH_take (i := 3) (v := ?_) rfl (by kernel_rfl) (by kernel_rfl) (by kernel_rfl) (fun _ _ _ h => h) (Or.inl ⟨by rfl, ?_⟩) (by assumption) ?_
      rotate_left
      · intro w'' hSw; (try dsimp only at hSw); simp only [List.getElem_toArray, List.getElem_cons_succ, List.getElem_cons_zero]; (go_simp <;> with_reducible rfl)
      try simp only [Act.put, List.setIfInBounds_toArray, List.set_cons_zero, List.set_cons_succ, List.getElem_toArray, List.getElem_cons_succ, List.getElem_cons_zero]
      refine wpAnyH_take (i := 4) (v := ?_) rfl (by kernel_rfl) (by kernel_rfl) (by kernel_rfl) (fun _ _ _ h => h) (Or.inl ⟨by rfl, ?_⟩) (by assumption) ?_
      rotate_left
      · intro w'' hSw; (try dsimp only at hSw); simp only [List.getElem_toArray, List.getElem_cons_succ, List.getElem_cons_zero]; (go_simp <;> with_reducible rfl)
      try simp only [Act.put, List.setIfInBounds_toArray, List.set_cons_zero, List.set_cons_succ, List.getElem_toArray, List.getElem_cons_succ, List.getElem_cons_zero]
      refine wpAnyH_take (i := 5) (v := ?_) rfl (by kernel_rfl) (by kernel_rfl) (by kernel_rfl) (fun _ _ _ h => h) (Or.inl ⟨by rfl, ?_⟩) (by assumption) ?_
      rotate_left
      · intro w'' hSw; (try dsimp only at hSw); simp only [List.getElem_toArray, List.getElem_cons_succ, List.getElem_cons_zero]; (go_simp <;> with_reducible rfl)
      try simp only [Act.put, List.setIfInBounds_toArray, List.set_cons_zero, List.set_cons_succ, List.getElem_toArray, List.getElem_cons_succ, List.getElem_cons_zero]
      refine wpAnyH_take (i := 6) (v := ?_) rfl (by kernel_rfl) (by kernel_rfl) (by kernel_rfl) (fun _ _ _ h => h) (Or.inl ⟨by rfl, ?_⟩) (by assumption) ?_
      rotate_left
      · intro w'' hSw; (try dsimp only at hSw); simp only [List.getElem_toArray, List.getElem_cons_succ, List.getElem_cons_zero]; (go_simp <;> with_reducible rfl)
      try simp only [Act.put, List.setIfInBounds_toArray, List.set_cons_zero, List.set_cons_succ, List.getElem_toArray, List.getElem_cons_succ, List.getElem_cons_zero]
      refine wpAnyH_take (i := 7) (v := ?_) rfl (by kernel_rfl) (by kernel_rfl) (by kernel_rfl) (fun _ _ _ h => h) (Or.inl ⟨by rfl, ?_⟩) (by assumption) ?_
      rotate_left
      · intro w'' hSw; (try dsimp only at hSw); simp only [List.getElem_toArray, List.getElem_cons_succ, List.getElem_cons_zero]; (go_simp <;> with_reducible rfl)
      try simp only [Act.put, List.setIfInBounds_toArray, List.set_cons_zero, List.set_cons_succ, List.getElem_toArray, List.getElem_cons_succ, List.getElem_cons_zero]
      refine wpAnyH_take (i := 8) (v := ?_) rfl (by kernel_rfl) (by kernel_rfl) (by kernel_rfl) (fun _ _ _ h => h) (Or.inl ⟨by rfl, ?_⟩) (by assumption) ?_
      rotate_left
      · intro w'' hSw; (try dsimp only at hSw); simp only [List.getElem_toArray, List.getElem_cons_succ, List.getElem_cons_zero]; (go_simp <;> with_reducible rfl)
      try simp only [Act.put, List.setIfInBounds_toArray, List.set_cons_zero, List.set_cons_succ, List.getElem_toArray, List.getElem_cons_succ, List.getElem_cons_zero]
      refine wpAnyH_take (i := 9) (v := ?_) rfl (by kernel_rfl) (by kernel_rfl) (by kernel_rfl) (fun _ _ _ h => h) (Or.inl ⟨by rfl, ?_⟩) (by assumption) ?_
      rotate_left
      · intro w'' hSw; (try dsimp only at hSw); simp only [List.getElem_toArray, List.getElem_cons_succ, List.getElem_cons_zero]; (go_simp <;> with_reducible rfl)
      try simp only [Act.put, List.setIfInBounds_toArray, List.set_cons_zero, List.set_cons_succ, List.getElem_toArray, List.getElem_cons_succ, List.getElem_cons_zero]
      refine wpAnyH_ready (rs := [10]) (by kernel_rfl) (by simp) ?_
      refine AllReadyH.cons rfl (fun K hK => ?_) AllReadyH.nil
      rw [if_pos (by rfl)]
      simp only [List.getElem_toArray, List.getElem_cons_succ, List.getElem_cons_zero]
      go_simp
      (go_at_call 15; refine (refSub_calls _ _ _).mono ?_; rintro e w1 ⟨rfl, rfl⟩)
      try go_wp2_with fail
      refine hK.out _ _ ?_ (fun hHeld2 => ?_)
      · (try dsimp only); exact hHeld1
      clear hK K hHeld1
      try simp only [Act.put, List.setIfInBounds_toArray, List.set_cons_zero, List.set_cons_succ, List.getElem_toArray, List.getElem_cons_succ, List.getElem_cons_zero]
      refine wpAnyH_take (i := 11) (v := ?_) rfl (by kernel_rfl) (by kernel_rfl) (by kernel_rfl) (fun _ _ _ h => h) (Or.inl ⟨by rfl, ?_⟩) (by assumption) ?_
      rotate_left
      · intro w'' hSw; (try dsimp only at hSw); simp only [List.getElem_toArray, List.getElem_cons_succ, List.getElem_cons_zero]; (go_simp <;> with_reducible rfl)
      try simp only [Act.put, List.setIfInBounds_toArray, List.set_cons_zero, List.set_cons_succ, List.getElem_toArray, List.getElem_cons_succ, List.getElem_cons_zero]
      refine wpAnyH_ready (rs := [12]) (by kernel_rfl) (by simp) ?_
      refine AllReadyH.cons rfl (fun K hK => ?_) AllReadyH.nil
      rw [if_pos (by rfl)]
      simp only [List.getElem_toArray, List.getElem_cons_succ, List.getElem_cons_zero]
      go_simp
      refine hK.out _ _ ?_ (fun hHeld3 => ?_)
      · (try dsimp only); exact ⟨(hHeld2.1.setCell (p := ⟨wr0.heap.size, 0, none⟩) (Nat.le_refl _) _), kept_cell (hHeld2.1.setCell (p := ⟨wr0.heap.size, 0, none⟩) (Nat.le_refl _) _) xA, kept_cell (hHeld2.1.setCell (p := ⟨wr0.heap.size, 0, none⟩) (Nat.le_refl _) _) xB⟩
      clear hK K
      try simp only [Act.put, List.setIfInBounds_toArray, List.set_cons_zero, List.set_cons_succ, List.getElem_toArray, List.getElem_cons_succ, List.getElem_cons_zero]
      refine wpAnyH_take (i := 13) (v := ?_) rfl (by kernel_rfl) (by kernel_rfl) (by kernel_rfl) (fun _ _ _ h => h) (Or.inl ⟨by rfl, ?_⟩) (by assumption) ?_
      rotate_left
      · intro w'' hSw; (try dsimp only at hSw); simp only [List.getElem_toArray, List.getElem_cons_succ, List.getElem_cons_zero]; (go_simp <;> with_reducible rfl)
      try simp only [Act.put, List.setIfInBounds_toArray, List.set_cons_zero, List.set_cons_succ, List.getElem_toArray, List.getElem_cons_succ, List.getElem_cons_zero]
      refine wpAnyH_done (by kernel_rfl) ?_ _
      have kq := hHeld3.1
      have rz := row_set0 (-65536) z0 z1 z2
      generalize (wz.setCell ⟨wr0.heap.size, 0, none⟩ (.int .i64 (-65536))).drew = wq at kq rz ⊢
      clear hHeld2 hHeld3 z0 z1 z2 zf kz xA xB yc0 yc1
      cases hd : decide (sub b3 a0 < m.d) with
      | true =>
        go_wp2_with fail
        refine (of_calls wr0.heap.size _ _ _ _ rz).mono ?_; rintro e w5 ⟨rfl, k5⟩
        have HO5 : Aside (OS w4 y0 m w5) := HO0.out.step (kq.trans k5)
        obtain ⟨_, ⟨c0, c1, c2⟩, cf, _, _⟩ := HO5.out
        have cf0 := cf 0
        have cf1 := cf 1
        have cf2 := cf 2
        clear cf
        go_wp2
        go_meet
        case rel => exact ⟨⟨-65536, 0, 0, sub b3 a0⟩, rfl, rfl, HO5.out.put hne ⟨-65536, 0, 0, sub b3 a0⟩, (or_lt' (q := (pickE ⟨65536, 0, 0, sub a3 b0⟩ ⟨-65536, 0, 0, sub b3 a0⟩ ⟨0, 65536, 0, sub a4 b1⟩ ⟨0, -65536, 0, sub b4 a1⟩ ⟨0, 0, 65536, sub a5 b2⟩ ⟨0, 0, -65536, sub b5 a2⟩ 0)) (c := ⟨-65536, 0, 0, sub b3 a0⟩) hm.out (of_decide_eq_true hd)).symm⟩
      | false =>
        go_wp2
        go_meet
        case rel => exact ⟨m, rfl, rfl, HO0.out.step kq, (or_ge' (q := (pickE ⟨65536, 0, 0, sub a3 b0⟩ ⟨-65536, 0, 0, sub b3 a0⟩ ⟨0, 65536, 0, sub a4 b1⟩ ⟨0, -65536, 0, sub b4 a1⟩ ⟨0, 0, 65536, sub a5 b2⟩ ⟨0, 0, -65536, sub b5 a2⟩ 0)) (c := ⟨-65536, 0, 0, sub b3 a0⟩) hm.out (of_decide_eq_false hd)).symm⟩
    case rest =>
      clear HO hm
      obtain ⟨m, rfl, rfl, HO, hm⟩ := hcut
      obtain ⟨wr1, hwr⟩ : ∃ x, x = wc := ⟨_, rfl⟩
      subst hwr
      go_wp2
      rw [rounds_succ]
      go_wp2
      rw [rounds_succ]
      go_wp2
      have HO2 := HO.anew 4
      have hne2 := HO.ne
      obtain ⟨y2, hy2⟩ : ∃ y, y = wr1.heap.size := ⟨_, rfl⟩
      rw [← hy2] at HO2 hne2
      simp only [← hy2]
      clear hy2 HO hne
      generalize (wr1.alloc (.cells #[.bool true, .bool false] 4)) = wk2 at HO2 ⊢
      have HO := HO2
      have hne := hne2
      clear HO2 hne2
      refine wp_loop_rounds 3 ?_
      rw [rounds_succ]
      go_upto_block 3 with fail
      go_cut [11, 12] from 36 (fun s11 s12 wc => ∃ m : Ex, s11 = .int .i64 m.d ∧ s12 = .bool true ∧ OS w4 y2 m wc ∧ Aside (m = (pickE ⟨65536, 0, 0, sub a3 b0⟩ ⟨-65536, 0, 0, sub b3 a0⟩ ⟨0, 65536, 0, sub a4 b1⟩ ⟨0, -65536, 0, sub b4 a1⟩ ⟨0, 0, 65536, sub a5 b2⟩ ⟨0, 0, -65536, sub b5 a2⟩ 2)))
      case first =>
        have xA := kept_cell HO.1 R1.out.2.1
        have xB := kept_cell HO.1 R2.out.2.1
        have HO0 : Aside (OS w4 y2 m wk2) := HO
        obtain ⟨_, _, _, yc0, yc1⟩ := HO
        go_wp2
        have z0 : (wk2.alloc (.cells #[.int .i64 0, .int .i64 0, .int .i64 0] 3)).cell? ⟨wk2.heap.size, 0, none⟩ = some (.int .i64 0) := by go_simp
        have z1 : (wk2.alloc (.cells #[.int .i64 0, .int .i64 0, .int .i64 0] 3)).cell? ⟨wk2.heap.size, 1, none⟩ = some (.int .i64 0) := by go_simp
        have z2 : (wk2.alloc (.cells #[.int .i64 0, .int .i64 0, .int .i64 0] 3)).cell? ⟨wk2.heap.size, 2, none⟩ = some (.int .i64 0) := by go_simp
        have zf : (wk2.alloc (.cells #[.int .i64 0, .int .i64 0, .int .i64 0] 3)).frozen? ⟨wk2.heap.size, 1, none⟩ = false := by go_simp
        have kz : Kept wk2 (wk2.alloc (.cells #[.int .i64 0, .int .i64 0, .int .i64 0] 3)) := (Kept.refl _).alloc _ _
        generalize (wk2.alloc (.cells #[.int .i64 0, .int .i64 0, .int .i64 0] 3)) = wz at z0 z1 z2 zf kz ⊢
        refine wp_region_held_drew (S := (fun w' => Kept wk2 w' ∧ w'.cell? ⟨q1, 1, none⟩ = some (.int .i64 a4) ∧ w'.cell? ⟨q2, 1, none⟩ = some (.int .i64 b1))) (by kernel_rfl) ?_ (fun hHeld1 => ?_)
        · (try dsimp only); exact ⟨kz.drew, kept_cell kz.drew xA, kept_cell kz.drew xB⟩
        refine wpAnyH_take (i := 0) (v := ?_) rfl (by kernel_rfl) (by kernel_rfl) (by kernel_rfl) (fun _ _ _ h => h) (Or.inl ⟨by rfl, ?_⟩) (by assumption) ?_
        rotate_left
        · intro w'' hSw; (try dsimp only at hSw); simp only [List.getElem_toArray, List.getElem_cons_succ, List.getElem_cons_zero]; (go_simp <;> with_reducible rfl)
        try simp only [Act.put, List.setIfInBounds_toArray, List.set_cons_zero, List.set_cons_succ, List.getElem_toArray, List.getElem_cons_succ, List.getElem_cons_zero]
        refine wpAnyH_take (i := 1) (v := ?_) rfl (by kernel_rfl) (by kernel_rfl) (by kernel_rfl) (fun _ _ _ h => h) (Or.inl ⟨by rfl, ?_⟩) (by assumption) ?_
        rotate_left
        · intro w'' hSw; (try dsimp only at hSw); simp only [List.getElem_toArray, List.getElem_cons_succ, List.getElem_cons_zero]; (go_simp <;> with_reducible rfl)
        try simp only [Act.put, List.setIfInBounds_toArray, List.set_cons_zero, List.set_cons_succ, List.getElem_toArray, List.getElem_cons_succ, List.getElem_cons_zero]
        refine wpAnyH_take (i := 2) (v := ?_) rfl (by kernel_rfl) (by kernel_rfl) (by kernel_rfl) (fun _ _ _ h => h) (Or.inl ⟨by rfl, ?_⟩) (by assumption) ?_
        rotate_left
        · intro w'' hSw; (try dsimp only at hSw); simp only [List.getElem_toArray, List.getElem_cons_succ, List.getElem_cons_zero]; (go_simp <;> with_reducible rfl)
        try simp only [Act.put, List.setIfInBounds_toArray, List.set_cons_zero, List.set_cons_succ, List.getElem_toArray, List.getElem_cons_succ, List.getElem_cons_zero]
        refine wpAnyH_take (i := 3) (v := ?_) rfl (by kernel_rfl) (by kernel_rfl) (by kernel_rfl) (fun _ _ _ h => h) (Or.inl ⟨by rfl, ?_⟩) (by assumption) ?_
        rotate_left
        · intro w'' hSw; (try dsimp only at hSw); simp only [List.getElem_toArray, List.getElem_cons_succ, List.getElem_cons_zero]; (go_simp <;> with_reducible rfl)
        try simp only [Act.put, List.setIfInBounds_toArray, List.set_cons_zero, List.set_cons_succ, List.getElem_toArray, List.getElem_cons_succ, List.getElem_cons_zero]
        refine wpAnyH_take (i := 4) (v := ?_) rfl (by kernel_rfl) (by kernel_rfl) (by kernel_rfl) (fun _ _ _ h => h) (Or.inl ⟨by rfl, ?_⟩) (by assumption) ?_
        rotate_left
        · intro w'' hSw; (try dsimp only at hSw); simp only [List.getElem_toArray, List.getElem_cons_succ, List.getElem_cons_zero]; (go_simp <;> with_reducible rfl)
        try simp only [Act.put, List.setIfInBounds_toArray, List.set_cons_zero, List.set_cons_succ, List.getElem_toArray, List.getElem_cons_succ, List.getElem_cons_zero]
        refine wpAnyH_take (i := 5) (v := ?_) rfl (by kernel_rfl) (by kernel_rfl) (by kernel_rfl) (fun _ _ _ h => h) (Or.inl ⟨by rfl, ?_⟩) (by assumption) ?_
        rotate_left
        · intro w'' hSw; (try dsimp only at hSw); simp only [List.getElem_toArray, List.getElem_cons_succ, List.getElem_cons_zero]; (go_simp <;> with_reducible rfl)
        try simp only [Act.put, List.setIfInBounds_toArray, List.set_cons_zero, List.set_cons_succ, List.getElem_toArray, List.getElem_cons_succ, List.getElem_cons_zero]
        refine wpAnyH_take (i := 6) (v := ?_) rfl (by kernel_rfl) (by kernel_rfl) (by kernel_rfl) (fun _ _ _ h => h) (Or.inl ⟨by rfl, ?_⟩) (by assumption) ?_
        rotate_left
        · intro w'' hSw; (try dsimp only at hSw); simp only [List.getElem_toArray, List.getElem_cons_succ, List.getElem_cons_zero]; (go_simp <;> with_reducible rfl)
        try simp only [Act.put, List.setIfInBounds_toArray, List.set_cons_zero, List.set_cons_succ, List.getElem_toArray, List.getElem_cons_succ, List.getElem_cons_zero]
        refine wpAnyH_take (i := 7) (v := ?_) rfl (by kernel_rfl) (by kernel_rfl) (by kernel_rfl) (fun _ _ _ h => h) (Or.inl ⟨by rfl, ?_⟩) (by assumption) ?_
        rotate_left
        · intro w'' hSw; (try dsimp only at hSw); simp only [List.getElem_toArray, List.getElem_cons_succ, List.getElem_cons_zero]; (go_simp <;> with_reducible rfl)
        try simp only [Act.put, List.setIfInBounds_toArray, List.set_cons_zero, List.set_cons_succ, List.getElem_toArray, List.getElem_cons_succ, List.getElem_cons_zero]
        refine wpAnyH_take (i := 8) (v := ?_) rfl (by kernel_rfl) (by kernel_rfl) (by kernel_rfl) (fun _ _ _ h => h) (Or.inl ⟨by rfl, ?_⟩) (by assumption) ?_
        rotate_left
        · intro w'' hSw; (try dsimp only at hSw); simp only [List.getElem_toArray, List.getElem_cons_succ, List.getElem_cons_zero]; (go_simp <;> with_reducible rfl)
        try simp only [Act.put, List.setIfInBounds_toArray, List.set_cons_zero, List.set_cons_succ, List.getElem_toArray, List.getElem_cons_succ, List.getElem_cons_zero]
        refine wpAnyH_take (i := 9) (v := ?_) rfl (by kernel_rfl) (by kernel_rfl) (by kernel_rfl) (fun _ _ _ h => h) (Or.inl ⟨by rfl, ?_⟩) (by assumption) ?_
        rotate_left
        · intro w'' hSw; (try dsimp only at hSw); simp only [List.getElem_toArray, List.getElem_cons_succ, List.getElem_cons_zero]; (go_simp <;> with_reducible rfl)
        try simp only [Act.put, List.setIfInBounds_toArray, List.set_cons_zero, List.set_cons_succ, List.getElem_toArray, List.getElem_cons_succ, List.getElem_cons_zero]
        refine wpAnyH_ready (rs := [10]) (by kernel_rfl) (by simp) ?_
        refine AllReadyH.cons rfl (fun K hK => ?_) AllReadyH.nil
        rw [if_pos (by rfl)]
        simp only [List.getElem_toArray, List.getElem_cons_succ, List.getElem_cons_zero]
        go_simp
        (go_at_call 15; refine (refSub_calls _ _ _).mono ?_; rintro e w1 ⟨rfl, rfl⟩)
        try go_wp2_with fail
        refine hK.out _ _ ?_ (fun hHeld2 => ?_)
        · (try dsimp only); exact hHeld1
        clear hK K hHeld1
        try simp only [Act.put, List.setIfInBounds_toArray, List.set_cons_zero, List.set_cons_succ, List.getElem_toArray, List.getElem_cons_succ, List.getElem_cons_zero]
        refine wpAnyH_take (i := 11) (v := ?_) rfl (by kernel_rfl) (by kernel_rfl) (by kernel_rfl) (fun _ _ _ h => h) (Or.inl ⟨by rfl, ?_⟩) (by assumption) ?_
        rotate_left
        · intro w'' hSw; (try dsimp only at hSw); simp only [List.getElem_toArray, List.getElem_cons_succ, List.getElem_cons_zero]; (go_simp <;> with_reducible rfl)
        try simp only [Act.put, List.setIfInBounds_toArray, List.set_cons_zero, List.set_cons_succ, List.getElem_toArray, List.getElem_cons_succ, List.getElem_cons_zero]
        refine wpAnyH_ready (rs := [12]) (by kernel_rfl) (by simp) ?_
        refine AllReadyH.cons rfl (fun K hK => ?_) AllReadyH.nil
        rw [if_pos (by rfl)]
        simp only [List.getElem_toArray, List.getElem_cons_succ, List.getElem_cons_zero]
        go_simp
        refine hK.out _ _ ?_ (fun hHeld3 => ?_)
        · (try dsimp only); exact ⟨(hHeld2.1.setCell (p := ⟨wk2.heap.size, 1, none⟩) (Nat.le_refl _) _), kept_cell (hHeld2.1.setCell (p := ⟨wk2.heap.size, 1, none⟩) (Nat.le_refl _) _) xA, kept_cell (hHeld2.1.setCell (p := ⟨wk2.heap.size, 1, none⟩) (Nat.le_refl _) _) xB⟩
        clear hK K
        try simp only [Act.put, List.setIfInBounds_toArray, List.set_cons_zero, List.set_cons_succ, List.getElem_toArray, List.getElem_cons_succ, List.getElem_cons_zero]
        refine wpAnyH_take (i := 13) (v := ?_) rfl (by kernel_rfl) (by kernel_rfl) (by kernel_rfl) (fun _ _ _ h => h) (Or.inl ⟨by rfl, ?_⟩) (by assumption) ?_
        rotate_left
        · intro w'' hSw; (try dsimp only at hSw); simp only [List.getElem_toArray, List.getElem_cons_succ, List.getElem_cons_zero]; (go_simp <;> with_reducible rfl)
        try simp only [Act.put, List.setIfInBounds_toArray, List.set_cons_zero, List.set_cons_succ, List.getElem_toArray, List.getElem_cons_succ, List.getElem_cons_zero]
        refine wpAnyH_done (by kernel_rfl) ?_ _
        have kq := hHeld3.1
        have rz := row_set1 65536 z0 z1 z2
        generalize (wz.setCell ⟨wk2.heap.size, 1, none⟩ (.int .i64 65536)).drew = wq at kq rz ⊢
        clear hHeld2 hHeld3 z0 z1 z2 zf kz xA xB yc0 yc1
        cases hd : decide (sub a4 b1 < m.d) with
        | true =>
          go_wp2_with fail
          refine (of_calls wk2.heap.size _ _ _ _ rz).mono ?_; rintro e w5 ⟨rfl, k5⟩
          have HO5 : Aside (OS w4 y2 m w5) := HO0.out.step (kq.trans k5)
          obtain ⟨_, ⟨c0, c1, c2⟩, cf, _, _⟩ := HO5.out
          have cf0 := cf 0
          have cf1 := cf 1
          have cf2 := cf 2
          clear cf
          go_wp2
          go_meet
          case rel => exact ⟨⟨0, 65536, 0, sub a4 b1⟩, rfl, rfl, HO5.out.put hne ⟨0, 65536, 0, sub a4 b1⟩, (or_lt' (q := (pickE ⟨65536, 0, 0, sub a3 b0⟩ ⟨-65536, 0, 0, sub b3 a0⟩ ⟨0, 65536, 0, sub a4 b1⟩ ⟨0, -65536, 0, sub b4 a1⟩ ⟨0, 0, 65536, sub a5 b2⟩ ⟨0, 0, -65536, sub b5 a2⟩ 1)) (c := ⟨0, 65536, 0, sub a4 b1⟩) hm.out (of_decide_eq_true hd)).symm⟩
        | false =>
          go_wp2
          go_meet
          case rel => exact ⟨m, rfl, rfl, HO0.out.step kq, (or_ge' (q := (pickE ⟨65536, 0, 0, sub a3 b0⟩ ⟨-65536, 0, 0, sub b3 a0⟩ ⟨0, 65536, 0, sub a4 b1⟩ ⟨0, -65536, 0, sub b4 a1⟩ ⟨0, 0, 65536, sub a5 b2⟩ ⟨0, 0, -65536, sub b5 a2⟩ 1)) (c := ⟨0, 65536, 0, sub a4 b1⟩) hm.out (of_decide_eq_false hd)).symm⟩
      case rest =>
        clear HO hm
        obtain ⟨m, rfl, rfl, HO, hm⟩ := hcut
        obtain ⟨wr2, hwr⟩ : ∃ x, x = wc := ⟨_, rfl⟩
        subst hwr
        go_wp2
        rw [rounds_succ]
        go_upto_block 3 with fail
        go_cut [11, 12] from 36 (fun s11 s12 wc => ∃ m : Ex, s11 = .int .i64 m.d ∧ s12 = .bool true ∧ OS w4 y2 m wc ∧ Aside (m = (pickE ⟨65536, 0, 0, sub a3 b0⟩ ⟨-65536, 0, 0, sub b3 a0⟩ ⟨0, 65536, 0, sub a4 b1⟩ ⟨0, -65536, 0, sub b4 a1⟩ ⟨0, 0, 65536, sub a5 b2⟩ ⟨0, 0, -65536, sub b5 a2⟩ 3)))
        case first =>
          have xA := kept_cell HO.1 R3.out.2.1
          have xB := kept_cell HO.1 R0.out.2.1
          have HO0 : Aside (OS w4 y2 m wr2) := HO
          obtain ⟨_, _, _, yc0, yc1⟩ := HO
          go_wp2
          have z0 : (wr2.alloc (.cells #[.int .i64 0, .int .i64 0, .int .i64 0] 3)).cell? ⟨wr2.heap.size, 0, none⟩ = some (.int .i64 0) := by go_simp
          have z1 : (wr2.alloc (.cells #[.int .i64 0, .int .i64 0, .int .i64 0] 3)).cell? ⟨wr2.heap.size, 1, none⟩ = some (.int .i64 0) := by go_simp
          have z2 : (wr2.alloc (.cells #[.int .i64 0, .int .i64 0, .int .i64 0] 3)).cell? ⟨wr2.heap.size, 2, none⟩ = some (.int .i64 0) := by go_simp
          have zf : (wr2.alloc (.cells #[.int .i64 0, .int .i64 0, .int .i64 0] 3)).frozen? ⟨wr2.heap.size, 1, none⟩ = false := by go_simp
          have kz : Kept wr2 (wr2.alloc (.cells #[.int .i64 0, .int .i64 0, .int .i64 0] 3)) := (Kept.refl _).alloc _ _
          generalize (wr2.alloc (.cells #[.int .i64 0, .int .i64 0, .int .i64 0] 3)) = wz at z0 z1 z2 zf kz ⊢
          refine wp_region_held_drew (S := (fun w' => Kept wr2 w' ∧ w'.cell? ⟨q3, 1, none⟩ = some (.int .i64 b4) ∧ w'.cell? ⟨q0, 1, none⟩ = some (.int .i64 a1))) (by kernel_rfl) ?_ (fun hHeld1 => ?_)
          · (try dsimp only); exact ⟨kz.drew, kept_cell kz.drew xA, kept_cell kz.drew xB⟩
          refine wpAnyH_take (i := 0) (v := ?_) rfl (by kernel_rfl) (by kernel_rfl) (by kernel_rfl) (fun _ _ _ h => h) (Or.inl ⟨by rfl, ?_⟩) (by assumption) ?_
          rotate_left
          · intro w'' hSw; (try dsimp only at hSw); simp only [List.getElem_toArray, List.getElem_cons_succ, List.getElem_cons_zero]; (go_simp <;> with_reducible rfl)
          try simp only [Act.put, List.setIfInBounds_toArray, List.set_cons_zero, List.set_cons_succ, List.getElem_toArray, List.getElem_cons_succ, List.getElem_cons_zero]
          refine wpAnyH_take (i := 1) (v := ?_) rfl (by kernel_rfl) (by kernel_rfl) (by kernel_rfl) (fun _ _ _ h => h) (Or.inl ⟨by rfl, ?_⟩) (by assumption) ?_
          rotate_left
          · intro w'' hSw; (try dsimp only at hSw); simp only [List.getElem_toArray, List.getElem_cons_succ, List.getElem_cons_zero]; (go_simp <;> with_reducible rfl)
          try simp only [Act.put, List.setIfInBounds_toArray, List.set_cons_zero, List.set_cons_succ, List.getElem_toArray, List.getElem_cons_succ, List.getElem_cons_zero]
          refine wpAnyH_take (i := 2) (v := ?_) rfl (by kernel_rfl) (by kernel_rfl) (by kernel_rfl) (fun _ _ _ h => h) (Or.inl ⟨by rfl, ?_⟩) (by assumption) ?_
          rotate_left
          · intro w'' hSw; (try dsimp only at hSw); simp only [List.getElem_toArray, List.getElem_cons_succ, List.getElem_cons_zero]; (go_simp <;> with_reducible rfl)
          try simp only [Act.put, List.setIfInBounds_toArray, List.set_cons_zero, List.set_cons_succ, List.getElem_toArray, List.getElem_cons_succ, List.getElem_cons_zero]
          refine wpAnyH_take (i := 3) (v := ?_) rfl (by kernel_rfl) (by kernel_rfl) (by kernel_rfl) (fun _ _ _ h => h) (Or.inl ⟨by rfl, ?_⟩) (by assumption) ?_
          rotate_left
          · intro w'' hSw; (try dsimp only at hSw); simp only [List.getElem_toArray, List.getElem_cons_succ, List.getElem_cons_zero]; (go_simp <;> with_reducible rfl)
          try simp only [Act.put, List.setIfInBounds_toArray, List.set_cons_zero, List.set_cons_succ, List.getElem_toArray, List.getElem_cons_succ, List.getElem_cons_zero]
          refine wpAnyH_take (i := 4) (v := ?_) rfl (by kernel_rfl) (by kernel_rfl) (by kernel_rfl) (fun _ _ _ h => h) (Or.inl ⟨by rfl, ?_⟩) (by assumption) ?_
          rotate_left
          · intro w'' hSw; (try dsimp only at hSw); simp only [List.getElem_toArray, List.getElem_cons_succ, List.getElem_cons_zero]; (go_simp <;> with_reducible rfl)
          try simp only [Act.put, List.setIfInBounds_toArray, List.set_cons_zero, List.set_cons_succ, List.getElem_toArray, List.getElem_cons_succ, List.getElem_cons_zero]
          refine wpAnyH_take (i := 5) (v := ?_) rfl (by kernel_rfl) (by kernel_rfl) (by kernel_rfl) (fun _ _ _ h => h) (Or.inl ⟨by rfl, ?_⟩) (by assumption) ?_
          rotate_left
          · intro w'' hSw; (try dsimp only at hSw); simp only [List.getElem_toArray, List.getElem_cons_succ, List.getElem_cons_zero]; (go_simp <;> with_reducible rfl)
          try simp only [Act.put, List.setIfInBounds_toArray, List.set_cons_zero, List.set_cons_succ, List.getElem_toArray, List.getElem_cons_succ, List.getElem_cons_zero]
          refine wpAnyH_take (i := 6) (v := ?_) rfl (by kernel_rfl) (by kernel_rfl) (by kernel_rfl) (fun _ _ _ h => h) (Or.inl ⟨by rfl, ?_⟩) (by assumption) ?_
          rotate_left
          · intro w'' hSw; (try dsimp only at hSw); simp only [List.getElem_toArray, List.getElem_cons_succ, List.getElem_cons_zero]; (go_simp <;> with_reducible rfl)
          try simp only [Act.put, List.setIfInBounds_toArray, List.set_cons_zero, List.set_cons_succ, List.getElem_toArray, List.getElem_cons_succ, List.getElem_cons_zero]
          refine wpAnyH_take (i := 7) (v := ?_) rfl (by kernel_rfl) (by kernel_rfl) (by kernel_rfl) (fun _ _ _ h => h) (Or.inl ⟨by rfl, ?_⟩) (by assumption) ?_
          rotate_left
          · intro w'' hSw; (try dsimp only at hSw); simp only [List.getElem_toArray, List.getElem_cons_succ, List.getElem_cons_zero]; (go_simp <;> with_reducible rfl)
          try simp only [Act.put, List.setIfInBounds_toArray, List.set_cons_zero, List.set_cons_succ, List.getElem_toArray, List.getElem_cons_succ, List.getElem_cons_zero]
          refine wpAnyH_take (i := 8) (v := ?_) rfl (by kernel_rfl) (by kernel_rfl) (by kernel_rfl) (fun _ _ _ h => h) (Or.inl ⟨by rfl, ?_⟩) (by assumption) ?_
          rotate_left
          · intro w'' hSw; (try dsimp only at hSw); simp only [List.getElem_toArray, List.getElem_cons_succ, List.getElem_cons_zero]; (go_simp <;> with_reducible rfl)
          try simp only [Act.put, List.setIfInBounds_toArray, List.set_cons_zero, List.set_cons_succ, List.getElem_toArray, List.getElem_cons_succ, List.getElem_cons_zero]
          refine wpAnyH_take (i := 9) (v := ?_) rfl (by kernel_rfl) (by kernel_rfl) (by kernel_rfl) (fun _ _ _ h => h) (Or.inl ⟨by rfl, ?_⟩) (by assumption) ?_
          rotate_left
          · intro w'' hSw; (try dsimp only at hSw); simp only [List.getElem_toArray, List.getElem_cons_succ, List.getElem_cons_zero]; (go_simp <;> with_reducible rfl)
          try simp only [Act.put, List.setIfInBounds_toArray, List.set_cons_zero, List.set_cons_succ, List.getElem_toArray, List.getElem_cons_succ, List.getElem_cons_zero]
          refine wpAnyH_ready (rs := [10]) (by kernel_rfl) (by simp) ?_
          refine AllReadyH.cons rfl (fun K hK => ?_) AllReadyH.nil
          rw [if_pos (by rfl)]
          simp only [List.getElem_toArray, List.getElem_cons_succ, List.getElem_cons_zero]
          go_simp
          (go_at_call 15; refine (refSub_calls _ _ _).mono ?_; rintro e w1 ⟨rfl, rfl⟩)
          try go_wp2_with fail
          refine hK.out _ _ ?_ (fun hHeld2 => ?_)
          · (try dsimp only); exact hHeld1
          clear hK K hHeld1
          try simp only [Act.put, List.setIfInBounds_toArray, List.set_cons_zero, List.set_cons_succ, List.getElem_toArray, List.getElem_cons_succ, List.getElem_cons_zero]
          refine wpAnyH_take (i := 11) (v := ?_) rfl (by kernel_rfl) (by kernel_rfl) (by kernel_rfl) (fun _ _ _ h => h) (Or.inl ⟨by rfl, ?_⟩) (by assumption) ?_
          rotate_left
          · intro w'' hSw; (try dsimp only at hSw); simp only [List.getElem_toArray, List.getElem_cons_succ, List.getElem_cons_zero]; (go_simp <;> with_reducible rfl)
          try simp only [Act.put, List.setIfInBounds_toArray, List.set_cons_zero, List.set_cons_succ, List.getElem_toArray, List.getElem_cons_succ, List.getElem_cons_zero]
          refine wpAnyH_ready (rs := [12]) (by kernel_rfl) (by simp) ?_
          refine AllReadyH.cons rfl (fun K hK => ?_) AllReadyH.nil
          rw [if_pos (by rfl)]
          simp only [List.getElem_toArray, List.getElem_cons_succ, List.getElem_cons_zero]
          go_simp
          refine hK.out _ _ ?_ (fun hHeld3 => ?_)
          · (try dsimp only); exact ⟨(hHeld2.1.setCell (p := ⟨wr2.heap.size, 1, none⟩) (Nat.le_refl _) _), kept_cell (hHeld2.1.setCell (p := ⟨wr2.heap.size, 1, none⟩) (Nat.le_refl _) _) xA, kept_cell (hHeld2.1.setCell (p := ⟨wr2.heap.size, 1, none⟩) (Nat.le_refl _) _) xB⟩
          clear hK K
          try simp only [Act.put, List.setIfInBounds_toArray, List.set_cons_zero, List.set_cons_succ, List.getElem_toArray, List.getElem_cons_succ, List.getElem_cons_zero]
          refine wpAnyH_take (i := 13) (v := ?_) rfl (by kernel_rfl) (by kernel_rfl) (by kernel_rfl) (fun _ _ _ h => h) (Or.inl ⟨by rfl, ?_⟩) (by assumption) ?_
          rotate_left
          · intro w'' hSw; (try dsimp only at hSw); simp only [List.getElem_toArray, List.getElem_cons_succ, List.getElem_cons_zero]; (go_simp <;> with_reducible rfl)
          try simp only [Act.put, List.setIfInBounds_toArray, List.set_cons_zero, List.set_cons_succ, List.getElem_toArray, List.getElem_cons_succ, List.getElem_cons_zero]
          refine wpAnyH_done (by kernel_rfl) ?_ _
          have kq := hHeld3.1
          have rz := row_set1 (-65536) z0 z1 z2
          generalize (wz.setCell ⟨wr2.heap.size, 1, none⟩ (.int .i64 (-65536))).drew = wq at kq rz ⊢
          clear hHeld2 hHeld3 z0 z1 z2 zf kz xA xB yc0 yc1
          cases hd : decide (sub b4 a1 < m.d) with
          | true =>
            go_wp2_with fail
            refine (of_calls wr2.heap.size _ _ _ _ rz).mono ?_; rintro e w5 ⟨rfl, k5⟩
            have HO5 : Aside (OS w4 y2 m w5) := HO0.out.step (kq.trans k5)
            obtain ⟨_, ⟨c0, c1, c2⟩, cf, _, _⟩ := HO5.out
            have cf0 := cf 0
            have cf1 := cf 1
            have cf2 := cf 2
            clear cf
            go_wp2
            go_meet
            case rel => exact ⟨⟨0, -65536, 0, sub b4 a1⟩, rfl, rfl, HO5.out.put hne ⟨0, -65536, 0, sub b4 a1⟩, (or_lt' (q := (pickE ⟨65536, 0, 0, sub a3 b0⟩ ⟨-65536, 0, 0, sub b3 a0⟩ ⟨0, 65536, 0, sub a4 b1⟩ ⟨0, -65536, 0, sub b4 a1⟩ ⟨0, 0, 65536, sub a5 b2⟩ ⟨0, 0, -65536, sub b5 a2⟩ 2)) (c := ⟨0, -65536, 0, sub b4 a1⟩) hm.out (of_decide_eq_true hd)).symm⟩
          | false =>
            go_wp2
            go_meet
            case rel => exact ⟨m, rfl, rfl, HO0.out.step kq, (or_ge' (q := (pickE ⟨65536, 0, 0, sub a3 b0⟩ ⟨-65536, 0, 0, sub b3 a0⟩ ⟨0, 65536, 0, sub a4 b1⟩ ⟨0, -65536, 0, sub b4 a1⟩ ⟨0, 0, 65536, sub a5 b2⟩ ⟨0, 0, -65536, sub b5 a2⟩ 2)) (c := ⟨0, -65536, 0, sub b4 a1⟩) hm.out (of_decide_eq_false hd)).symm⟩
        case rest =>
          clear HO hm
          obtain ⟨m, rfl, rfl, HO, hm⟩ := hcut
          obtain ⟨wr3, hwr⟩ : ∃ x, x = wc := ⟨_, rfl⟩
          subst hwr
          go_wp2
          rw [rounds_succ]
          go_wp2
          rw [rounds_succ]
          go_wp2
          have HO4 := HO.anew 4
          have hne4 := HO.ne
          obtain ⟨y4, hy4⟩ : ∃ y, y = wr3.heap.size := ⟨_, rfl⟩
          rw [← hy4] at HO4 hne4
          simp only [← hy4]
          clear hy4 HO hne
          generalize (wr3.alloc (.cells #[.bool true, .bool false] 4)) = wk4 at HO4 ⊢
          have HO := HO4
          have hne := hne4
          clear HO4 hne4
          refine wp_loop_rounds 3 ?_
          rw [rounds_succ]
          go_upto_block 3 with fail
          go_cut [11, 12] from 36 (fun s11 s12 wc => ∃ m : Ex, s11 = .int .i64 m.d ∧ s12 = .bool true ∧ OS w4 y4 m wc ∧ Aside (m = (pickE ⟨65536, 0, 0, sub a3 b0⟩ ⟨-65536, 0, 0, sub b3 a0⟩ ⟨0, 65536, 0, sub a4 b1⟩ ⟨0, -65536, 0, sub b4 a1⟩ ⟨0, 0, 65536, sub a5 b2⟩ ⟨0, 0, -65536, sub b5 a2⟩ 4)))
          case first =>
            have xA := kept_cell HO.1 R1.out.2.2
            have xB := kept_cell HO.1 R2.out.2.2
            have HO0 : Aside (OS w4 y4 m wk4) := HO
            obtain ⟨_, _, _, yc0, yc1⟩ := HO
            go_wp2
            have z0 : (wk4.alloc (.cells #[.int .i64 0, .int .i64 0, .int .i64 0] 3)).cell? ⟨wk4.heap.size, 0, none⟩ = some (.int .i64 0) := by go_simp
            have z1 : (wk4.alloc (.cells #[.int .i64 0, .int .i64 0, .int .i64 0] 3)).cell? ⟨wk4.heap.size, 1, none⟩ = some (.int .i64 0) := by go_simp
            have z2 : (wk4.alloc (.cells #[.int .i64 0, .int .i64 0, .int .i64 0] 3)).cell? ⟨wk4.heap.size, 2, none⟩ = some (.int .i64 0) := by go_simp
            have zf : (wk4.alloc (.cells #[.int .i64 0, .int .i64 0, .int .i64 0] 3)).frozen? ⟨wk4.heap.size, 2, none⟩ = false := by go_simp
            have kz : Kept wk4 (wk4.alloc (.cells #[.int .i64 0, .int .i64 0, .int .i64 0] 3)) := (Kept.refl _).alloc _ _
            generalize (wk4.alloc (.cells #[.int .i64 0, .int .i64 0, .int .i64 0] 3)) = wz at z0 z1 z2 zf kz ⊢
            refine wp_region_held_drew (S := (fun w' => Kept wk4 w' ∧ w'.cell? ⟨q1, 2, none⟩ = some (.int .i64 a5) ∧ w'.cell? ⟨q2, 2, none⟩ = some (.int .i64 b2))) (by kernel_rfl) ?_ (fun hHeld1 => ?_)
            · (try dsimp only); exact ⟨kz.drew, kept_cell kz.drew xA, kept_cell kz.drew xB⟩
            refine wpAnyH_take (i := 0) (v := ?_) rfl (by kernel_rfl) (by kernel_rfl) (by kernel_rfl) (fun _ _ _ h => h) (Or.inl ⟨by rfl, ?_⟩) (by assumption) ?_
            rotate_left
            · intro w'' hSw; (try dsimp only at hSw); simp only [List.getElem_toArray, List.getElem_cons_succ, List.getElem_cons_zero]; (go_simp <;> with_reducible rfl)
            try simp only [Act.put, List.setIfInBounds_toArray, List.set_cons_zero, List.set_cons_succ, List.getElem_toArray, List.getElem_cons_succ, List.getElem_cons_zero]
            refine wpAnyH_take (i := 1) (v := ?_) rfl (by kernel_rfl) (by kernel_rfl) (by kernel_rfl) (fun _ _ _ h => h) (Or.inl ⟨by rfl, ?_⟩) (by assumption) ?_
            rotate_left
            · intro w'' hSw; (try dsimp only at hSw); simp only [List.getElem_toArray, List.getElem_cons_succ, List.getElem_cons_zero]; (go_simp <;> with_reducible rfl)
            try simp only [Act.put, List.setIfInBounds_toArray, List.set_cons_zero, List.set_cons_succ, List.getElem_toArray, List.getElem_cons_succ, List.getElem_cons_zero]
            refine wpAnyH_take (i := 2) (v := ?_) rfl (by kernel_rfl) (by kernel_rfl) (by kernel_rfl) (fun _ _ _ h => h) (Or.inl ⟨by rfl, ?_⟩) (by assumption) ?_
            rotate_left
            · intro w'' hSw; (try dsimp only at hSw); simp only [List.getElem_toArray, List.getElem_cons_succ, List.getElem_cons_zero]; (go_simp <;> with_reducible rfl)
            try simp only [Act.put, List.setIfInBounds_toArray, List.set_cons_zero, List.set_cons_succ, List.getElem_toArray, List.getElem_cons_succ, List.getElem_cons_zero]
            refine wpAnyH_take (i := 3) (v := ?_) rfl (by kernel_rfl) (by kernel_rfl) (by kernel_rfl) (fun _ _ _ h => h) (Or.inl ⟨by rfl, ?_⟩) (by assumption) ?_
            rotate_left
            · intro w'' hSw; (try dsimp only at hSw); simp only [List.getElem_toArray, List.getElem_cons_succ, List.getElem_cons_zero]; (go_simp <;> with_reducible rfl)
            try simp only [Act.put, List.setIfInBounds_toArray, List.set_cons_zero, List.set_cons_succ, List.getElem_toArray, List.getElem_cons_succ, List.getElem_cons_zero]
            refine wpAnyH_take (i := 4) (v := ?_) rfl (by kernel_rfl) (by kernel_rfl) (by kernel_rfl) (fun _ _ _ h => h) (Or.inl ⟨by rfl, ?_⟩) (by assumption) ?_
            rotate_left
            · intro w'' hSw; (try dsimp only at hSw); simp only [List.getElem_toArray, List.getElem_cons_succ, List.getElem_cons_zero]; (go_simp <;> with_reducible rfl)
            try simp only [Act.put, List.setIfInBounds_toArray, List.set_cons_zero, List.set_cons_succ, List.getElem_toArray, List.getElem_cons_succ, List.getElem_cons_zero]
            refine wpAnyH_take (i := 5) (v := ?_) rfl (by kernel_rfl) (by kernel_rfl) (by kernel_rfl) (fun _ _ _ h => h) (Or.inl ⟨by rfl, ?_⟩) (by assumption) ?_
            rotate_left
            · intro w'' hSw; (try dsimp only at hSw); simp only [List.getElem_toArray, List.getElem_cons_succ, List.getElem_cons_zero]; (go_simp <;> with_reducible rfl)
            try simp only [Act.put, List.setIfInBounds_toArray, List.set_cons_zero, List.set_cons_succ, List.getElem_toArray, List.getElem_cons_succ, List.getElem_cons_zero]
            refine wpAnyH_take (i := 6) (v := ?_) rfl (by kernel_rfl) (by kernel_rfl) (by kernel_rfl) (fun _ _ _ h => h) (Or.inl ⟨by rfl, ?_⟩) (by assumption) ?_
            rotate_left
            · intro w'' hSw; (try dsimp only at hSw); simp only [List.getElem_toArray, List.getElem_cons_succ, List.getElem_cons_zero]; (go_simp <;> with_reducible rfl)
            try simp only [Act.put, List.setIfInBounds_toArray, List.set_cons_zero, List.set_cons_succ, List.getElem_toArray, List.getElem_cons_succ, List.getElem_cons_zero]
            refine wpAnyH_take (i := 7) (v := ?_) rfl (by kernel_rfl) (by kernel_rfl) (by kernel_rfl) (fun _ _ _ h => h) (Or.inl ⟨by rfl, ?_⟩) (by assumption) ?_
            rotate_left
            · intro w'' hSw; (try dsimp only at hSw); simp only [List.getElem_toArray, List.getElem_cons_succ, List.getElem_cons_zero]; (go_simp <;> with_reducible rfl)
            try simp only [Act.put, List.setIfInBounds_toArray, List.set_cons_zero, List.set_cons_succ, List.getElem_toArray, List.getElem_cons_succ, List.getElem_cons_zero]
            refine wpAnyH_take (i := 8) (v := ?_) rfl (by kernel_rfl) (by kernel_rfl) (by kernel_rfl) (fun _ _ _ h => h) (Or.inl ⟨by rfl, ?_⟩) (by assumption) ?_
            rotate_left
            · intro w'' hSw; (try dsimp only at hSw); simp only [List.getElem_toArray, List.getElem_cons_succ, List.getElem_cons_zero]; (go_simp <;> with_reducible rfl)
            try simp only [Act.put, List.setIfInBounds_toArray, List.set_cons_zero, List.set_cons_succ, List.getElem_toArray, List.getElem_cons_succ, List.getElem_cons_zero]
            refine wpAnyH_take (i := 9) (v := ?_) rfl (by kernel_rfl) (by kernel_rfl) (by kernel_rfl) (fun _ _ _ h => h) (Or.inl ⟨by rfl, ?_⟩) (by assumption) ?_
            rotate_left
            · intro w'' hSw; (try dsimp only at hSw); simp only [List.getElem_toArray, List.getElem_cons_succ, List.getElem_cons_zero]; (go_simp <;> with_reducible rfl)
            try simp only [Act.put, List.setIfInBounds_toArray, List.set_cons_zero, List.set_cons_succ, List.getElem_toArray, List.getElem_cons_succ, List.getElem_cons_zero]
            refine wpAnyH_ready (rs := [10]) (by kernel_rfl) (by simp) ?_
            refine AllReadyH.cons rfl (fun K hK => ?_) AllReadyH.nil
            rw [if_pos (by rfl)]
            simp only [List.getElem_toArray, List.getElem_cons_succ, List.getElem_cons_zero]
            go_simp
            (go_at_call 15; refine (refSub_calls _ _ _).mono ?_; rintro e w1 ⟨rfl, rfl⟩)
            try go_wp2_with fail
            refine hK.out _ _ ?_ (fun hHeld2 => ?_)
            · (try dsimp only); exact hHeld1
            clear hK K hHeld1
            try simp only [Act.put, List.setIfInBounds_toArray, List.set_cons_zero, List.set_cons_succ, List.getElem_toArray, List.getElem_cons_succ, List.getElem_cons_zero]
            refine wpAnyH_take (i := 11) (v := ?_) rfl (by kernel_rfl) (by kernel_rfl) (by kernel_rfl) (fun _ _ _ h => h) (Or.inl ⟨by rfl, ?_⟩) (by assumption) ?_
            rotate_left
            · intro w'' hSw; (try dsimp only at hSw); simp only [List.getElem_toArray, List.getElem_cons_succ, List.getElem_cons_zero]; (go_simp <;> with_reducible rfl)
            try simp only [Act.put, List.setIfInBounds_toArray, List.set_cons_zero, List.set_cons_succ, List.getElem_toArray, List.getElem_cons_succ, List.getElem_cons_zero]
            refine wpAnyH_ready (rs := [12]) (by kernel_rfl) (by simp) ?_
            refine AllReadyH.cons rfl (fun K hK => ?_) AllReadyH.nil
            rw [if_pos (by rfl)]
            simp only [List.getElem_toArray, List.getElem_cons_succ, List.getElem_cons_zero]
            go_simp
            refine hK.out _ _ ?_ (fun hHeld3 => ?_)
            · (try dsimp only); exact ⟨(hHeld2.1.setCell (p := ⟨wk4.heap.size, 2, none⟩) (Nat.le_refl _) _), kept_cell (hHeld2.1.setCell (p := ⟨wk4.heap.size, 2, none⟩) (Nat.le_refl _) _) xA, kept_cell (hHeld2.1.setCell (p := ⟨wk4.heap.size, 2, none⟩) (Nat.le_refl _) _) xB⟩
            clear hK K
            try simp only [Act.put, List.setIfInBounds_toArray, List.set_cons_zero, List.set_cons_succ, List.getElem_toArray, List.getElem_cons_succ, List.getElem_cons_zero]
            refine wpAnyH_take (i := 13) (v := ?_) rfl (by kernel_rfl) (by kernel_rfl) (by kernel_rfl) (fun _ _ _ h => h) (Or.inl ⟨by rfl, ?_⟩) (by assumption) ?_
            rotate_left
            · intro w'' hSw; (try dsimp only at hSw); simp only [List.getElem_toArray, List.getElem_cons_succ, List.getElem_cons_zero]; (go_simp <;> with_reducible rfl)
            try simp only [Act.put, List.setIfInBounds_toArray, List.set_cons_zero, List.set_cons_succ, List.getElem_toArray, List.getElem_cons_succ, List.getElem_cons_zero]
            refine wpAnyH_done (by kernel_rfl) ?_ _
            have kq := hHeld3.1
            have rz := row_set2 65536 z0 z1 z2
            generalize (wz.setCell ⟨wk4.heap.size, 2, none⟩ (.int .i64 65536)).drew = wq at kq rz ⊢
            clear hHeld2 hHeld3 z0 z1 z2 zf kz xA xB yc0 yc1
            cases hd : decide (sub a5 b2 < m.d) with
            | true =>
              go_wp2_with fail
              refine (of_calls wk4.heap.size _ _ _ _ rz).mono ?_; rintro e w5 ⟨rfl, k5⟩
              have HO5 : Aside (OS w4 y4 m w5) := HO0.out.step (kq.trans k5)
              obtain ⟨_, ⟨c0, c1, c2⟩, cf, _, _⟩ := HO5.out
              have cf0 := cf 0
              have cf1 := cf 1
              have cf2 := cf 2
              clear cf
              go_wp2
              go_meet
              case rel => exact ⟨⟨0, 0, 65536, sub a5 b2⟩, rfl, rfl, HO5.out.put hne ⟨0, 0, 65536, sub a5 b2⟩, (or_lt' (q := (pickE ⟨65536, 0, 0, sub a3 b0⟩ ⟨-65536, 0, 0, sub b3 a0⟩ ⟨0, 65536, 0, sub a4 b1⟩ ⟨0, -65536, 0, sub b4 a1⟩ ⟨0, 0, 65536, sub a5 b2⟩ ⟨0, 0, -65536, sub b5 a2⟩ 3)) (c := ⟨0, 0, 65536, sub a5 b2⟩) hm.out (of_decide_eq_true hd)).symm⟩
            | false =>
              go_wp2
              go_meet
              case rel => exact ⟨m, rfl, rfl, HO0.out.step kq, (or_ge' (q := (pickE ⟨65536, 0, 0, sub a3 b0⟩ ⟨-65536, 0, 0, sub b3 a0⟩ ⟨0, 65536, 0, sub a4 b1⟩ ⟨0, -65536, 0, sub b4 a1⟩ ⟨0, 0, 65536, sub a5 b2⟩ ⟨0, 0, -65536, sub b5 a2⟩ 3)) (c := ⟨0, 0, 65536, sub a5 b2⟩) hm.out (of_decide_eq_false hd)).symm⟩
          case rest =>
            clear HO hm
            obtain ⟨m, rfl, rfl, HO, hm⟩ := hcut
            obtain ⟨wr4, hwr⟩ : ∃ x, x = wc := ⟨_, rfl⟩
            subst hwr
            go_wp2
            rw [rounds_succ]
            go_upto_block 3 with fail
            go_cut [11, 12] from 36 (fun s11 s12 wc => ∃ m : Ex, s11 = .int .i64 m.d ∧ s12 = .bool true ∧ OS w4 y4 m wc ∧ Aside (m = (pickE ⟨65536, 0, 0, sub a3 b0⟩ ⟨-65536, 0, 0, sub b3 a0⟩ ⟨0, 65536, 0, sub a4 b1⟩ ⟨0, -65536, 0, sub b4 a1⟩ ⟨0, 0, 65536, sub a5 b2⟩ ⟨0, 0, -65536, sub b5 a2⟩ 5)))
            case first =>
              have xA := kept_cell HO.1 R3.out.2.2
              have xB := kept_cell HO.1 R0.out.2.2
              have HO0 : Aside (OS w4 y4 m wr4) := HO
              obtain ⟨_, _, _, yc0, yc1⟩ := HO
              go_wp2
              have z0 : (wr4.alloc (.cells #[.int .i64 0, .int .i64 0, .int .i64 0] 3)).cell? ⟨wr4.heap.size, 0, none⟩ = some (.int .i64 0) := by go_simp
              have z1 : (wr4.alloc (.cells #[.int .i64 0, .int .i64 0, .int .i64 0] 3)).cell? ⟨wr4.heap.size, 1, none⟩ = some (.int .i64 0) := by go_simp
              have z2 : (wr4.alloc (.cells #[.int .i64 0, .int .i64 0, .int .i64 0] 3)).cell? ⟨wr4.heap.size, 2, none⟩ = some (.int .i64 0) := by go_simp
              have zf : (wr4.alloc (.cells #[.int .i64 0, .int .i64 0, .int .i64 0] 3)).frozen? ⟨wr4.heap.size, 2, none⟩ = false := by go_simp
              have kz : Kept wr4 (wr4.alloc (.cells #[.int .i64 0, .int .i64 0, .int .i64 0] 3)) := (Kept.refl _).alloc _ _
              generalize (wr4.alloc (.cells #[.int .i64 0, .int .i64 0, .int .i64 0] 3)) = wz at z0 z1 z2 zf kz ⊢
              refine wp_region_held_drew (S := (fun w' => Kept wr4 w' ∧ w'.cell? ⟨q3, 2, none⟩ = some (.int .i64 b5) ∧ w'.cell? ⟨q0, 2, none⟩ = some (.int .i64 a2))) (by kernel_rfl) ?_ (fun hHeld1 => ?_)
              · (try dsimp only); exact ⟨kz.drew, kept_cell kz.drew xA, kept_cell kz.drew xB⟩
              refine wpAnyH_take (i := 0) (v := ?_) rfl (by kernel_rfl) (by kernel_rfl) (by kernel_rfl) (fun _ _ _ h => h) (Or.inl ⟨by rfl, ?_⟩) (by assumption) ?_
              rotate_left
              · intro w'' hSw; (try dsimp only at hSw); simp only [List.getElem_toArray, List.getElem_cons_succ, List.getElem_cons_zero]; (go_simp <;> with_reducible rfl)
              try simp only [Act.put, List.setIfInBounds_toArray, List.set_cons_zero, List.set_cons_succ, List.getElem_toArray, List.getElem_cons_succ, List.getElem_cons_zero]
              refine wpAnyH_take (i := 1) (v := ?_) rfl (by kernel_rfl) (by kernel_rfl) (by kernel_rfl) (fun _ _ _ h => h) (Or.inl ⟨by rfl, ?_⟩) (by assumption) ?_
              rotate_left
              · intro w'' hSw; (try dsimp only at hSw); simp only [List.getElem_toArray, List.getElem_cons_succ, List.getElem_cons_zero]; (go_simp <;> with_reducible rfl)
              try simp only [Act.put, List.setIfInBounds_toArray, List.set_cons_zero, List.set_cons_succ, List.getElem_toArray, List.getElem_cons_succ, List.getElem_cons_zero]
              refine wpAnyH_take (i := 2) (v := ?_) rfl (by kernel_rfl) (by kernel_rfl) (by kernel_rfl) (fun _ _ _ h => h) (Or.inl ⟨by rfl, ?_⟩) (by assumption) ?_
              rotate_left
              · intro w'' hSw; (try dsimp only at hSw); simp only [List.getElem_toArray, List.getElem_cons_succ, List.getElem_cons_zero]; (go_simp <;> with_reducible rfl)
              try simp only [Act.put, List.setIfInBounds_toArray, List.set_cons_zero, List.set_cons_succ, List.getElem_toArray, List.getElem_cons_succ, List.getElem_cons_zero]
              refine wpAnyH_take (i := 3) (v := ?_) rfl (by kernel_rfl) (by kernel_rfl) (by kernel_rfl) (fun _ _ _ h => h) (Or.inl ⟨by rfl, ?_⟩) (by assumption) ?_
              rotate_left
              · intro w'' hSw; (try dsimp only at hSw); simp only [List.getElem_toArray, List.getElem_cons_succ, List.getElem_cons_zero]; (go_simp <;> with_reducible rfl)
              try simp only [Act.put, List.setIfInBounds_toArray, List.set_cons_zero, List.set_cons_succ, List.getElem_toArray, List.getElem_cons_succ, List.getElem_cons_zero]
              refine wpAnyH_take (i := 4) (v := ?_) rfl (by kernel_rfl) (by kernel_rfl) (by kernel_rfl) (fun _ _ _ h => h) (Or.inl ⟨by rfl, ?_⟩) (by assumption) ?_
              rotate_left
              · intro w'' hSw; (try dsimp only at hSw); simp only [List.getElem_toArray, List.getElem_cons_succ, List.getElem_cons_zero]; (go_simp <;> with_reducible rfl)
              try simp only [Act.put, List.setIfInBounds_toArray, List.set_cons_zero, List.set_cons_succ, List.getElem_toArray, List.getElem_cons_succ, List.getElem_cons_zero]
              refine wpAnyH_take (i := 5) (v := ?_) rfl (by kernel_rfl) (by kernel_rfl) (by kernel_rfl) (fun _ _ _ h => h) (Or.inl ⟨by rfl, ?_⟩) (by assumption) ?_
              rotate_left
              · intro w'' hSw; (try dsimp only at hSw); simp only [List.getElem_toArray, List.getElem_cons_succ, List.getElem_cons_zero]; (go_simp <;> with_reducible rfl)
              try simp only [Act.put, List.setIfInBounds_toArray, List.set_cons_zero, List.set_cons_succ, List.getElem_toArray, List.getElem_cons_succ, List.getElem_cons_zero]
              refine wpAnyH_take (i := 6) (v := ?_) rfl (by kernel_rfl) (by kernel_rfl) (by kernel_rfl) (fun _ _ _ h => h) (Or.inl ⟨by rfl, ?_⟩) (by assumption) ?_
              rotate_left
              · intro w'' hSw; (try dsimp only at hSw); simp only [List.getElem_toArray, List.getElem_cons_succ, List.getElem_cons_zero]; (go_simp <;> with_reducible rfl)
              try simp only [Act.put, List.setIfInBounds_toArray, List.set_cons_zero, List.set_cons_succ, List.getElem_toArray, List.getElem_cons_succ, List.getElem_cons_zero]
              refine wpAnyH_take (i := 7) (v := ?_) rfl (by kernel_rfl) (by kernel_rfl) (by kernel_rfl) (fun _ _ _ h => h) (Or.inl ⟨by rfl, ?_⟩) (by assumption) ?_
              rotate_left
              · intro w'' hSw; (try dsimp only at hSw); simp only [List.getElem_toArray, List.getElem_cons_succ, List.getElem_cons_zero]; (go_simp <;> with_reducible rfl)
              try simp only [Act.put, List.setIfInBounds_toArray, List.set_cons_zero, List.set_cons_succ, List.getElem_toArray, List.getElem_cons_succ, List.getElem_cons_zero]
              refine wpAnyH_take (i := 8) (v := ?_) rfl (by kernel_rfl) (by kernel_rfl) (by kernel_rfl) (fun _ _ _ h => h) (Or.inl ⟨by rfl, ?_⟩) (by assumption) ?_
              rotate_left
              · intro w'' hSw; (try dsimp only at hSw); simp only [List.getElem_toArray, List.getElem_cons_succ, List.getElem_cons_zero]; (go_simp <;> with_reducible rfl)
              try simp only [Act.put, List.setIfInBounds_toArray, List.set_cons_zero, List.set_cons_succ, List.getElem_toArray, List.getElem_cons_succ, List.getElem_cons_zero]
              refine wpAnyH_take (i := 9) (v := ?_) rfl (by kernel_rfl) (by kernel_rfl) (by kernel_rfl) (fun _ _ _ h => h) (Or.inl ⟨by rfl, ?_⟩) (by assumption) ?_
              rotate_left
              · intro w'' hSw; (try dsimp only at hSw); simp only [List.getElem_toArray, List.getElem_cons_succ, List.getElem_cons_zero]; (go_simp <;> with_reducible rfl)
              try simp only [Act.put, List.setIfInBounds_toArray, List.set_cons_zero, List.set_cons_succ, List.getElem_toArray, List.getElem_cons_succ, List.getElem_cons_zero]
              refine wpAnyH_ready (rs := [10]) (by kernel_rfl) (by simp) ?_
              refine AllReadyH.cons rfl (fun K hK => ?_) AllReadyH.nil
              rw [if_pos (by rfl)]
              simp only [List.getElem_toArray, List.getElem_cons_succ, List.getElem_cons_zero]
              go_simp
              (go_at_call 15; refine (refSub_calls _ _ _).mono ?_; rintro e w1 ⟨rfl, rfl⟩)
              try go_wp2_with fail
              refine hK.out _ _ ?_ (fun hHeld2 => ?_)
              · (try dsimp only); exact hHeld1
              clear hK K hHeld1
              try simp only [Act.put, List.setIfInBounds_toArray, List.set_cons_zero, List.set_cons_succ, List.getElem_toArray, List.getElem_cons_succ, List.getElem_cons_zero]
              refine wpAnyH_take (i := 11) (v := ?_) rfl (by kernel_rfl) (by kernel_rfl) (by kernel_rfl) (fun _ _ _ h => h) (Or.inl ⟨by rfl, ?_⟩) (by assumption) ?_
              rotate_left
              · intro w'' hSw; (try dsimp only at hSw); simp only [List.getElem_toArray, List.getElem_cons_succ, List.getElem_cons_zero]; (go_simp <;> with_reducible rfl)
              try simp only [Act.put, List.setIfInBounds_toArray, List.set_cons_zero, List.set_cons_succ, List.getElem_toArray, List.getElem_cons_succ, List.getElem_cons_zero]
              refine wpAnyH_ready (rs := [12]) (by kernel_rfl) (by simp) ?_
              refine AllReadyH.cons rfl (fun K hK => ?_) AllReadyH.nil
              rw [if_pos (by rfl)]
              simp only [List.getElem_toArray, List.getElem_cons_succ, List.getElem_cons_zero]
              go_simp
              refine hK.out _ _ ?_ (fun hHeld3 => ?_)
              · (try dsimp only); exact ⟨(hHeld2.1.setCell (p := ⟨wr4.heap.size, 2, none⟩) (Nat.le_refl _) _), kept_cell (hHeld2.1.setCell (p := ⟨wr4.heap.size, 2, none⟩) (Nat.le_refl _) _) xA, kept_cell (hHeld2.1.setCell (p := ⟨wr4.heap.size, 2, none⟩) (Nat.le_refl _) _) xB⟩
              clear hK K
              try simp only [Act.put, List.setIfInBounds_toArray, List.set_cons_zero, List.set_cons_succ, List.getElem_toArray, List.getElem_cons_succ, List.getElem_cons_zero]
              refine wpAnyH_take (i := 13) (v := ?_) rfl (by kernel_rfl) (by kernel_rfl) (by kernel_rfl) (fun _ _ _ h => h) (Or.inl ⟨by rfl, ?_⟩) (by assumption) ?_
              rotate_left
              · intro w'' hSw; (try dsimp only at hSw); simp only [List.getElem_toArray, List.getElem_cons_succ, List.getElem_cons_zero]; (go_simp <;> with_reducible rfl)
              try simp only [Act.put, List.setIfInBounds_toArray, List.set_cons_zero, List.set_cons_succ, List.getElem_toArray, List.getElem_cons_succ, List.getElem_cons_zero]
              refine wpAnyH_done (by kernel_rfl) ?_ _
              have kq := hHeld3.1
              have rz := row_set2 (-65536) z0 z1 z2
              generalize (wz.setCell ⟨wr4.heap.size, 2, none⟩ (.int .i64 (-65536))).drew = wq at kq rz ⊢
              clear hHeld2 hHeld3 z0 z1 z2 zf kz xA xB yc0 yc1
              cases hd : decide (sub b5 a2 < m.d) with
              | true =>
                go_wp2_with fail
                refine (of_calls wr4.heap.size _ _ _ _ rz).mono ?_; rintro e w5 ⟨rfl, k5⟩
                have HO5 : Aside (OS w4 y4 m w5) := HO0.out.step (kq.trans k5)
                obtain ⟨_, ⟨c0, c1, c2⟩, cf, _, _⟩ := HO5.out
                have cf0 := cf 0
                have cf1 := cf 1
                have cf2 := cf 2
                clear cf
                go_wp2
                go_meet
                case rel => exact ⟨⟨0, 0, -65536, sub b5 a2⟩, rfl, rfl, HO5.out.put hne ⟨0, 0, -65536, sub b5 a2⟩, (or_lt' (q := (pickE ⟨65536, 0, 0, sub a3 b0⟩ ⟨-65536, 0, 0, sub b3 a0⟩ ⟨0, 65536, 0, sub a4 b1⟩ ⟨0, -65536, 0, sub b4 a1⟩ ⟨0, 0, 65536, sub a5 b2⟩ ⟨0, 0, -65536, sub b5 a2⟩ 4)) (c := ⟨0, 0, -65536, sub b5 a2⟩) hm.out (of_decide_eq_true hd)).symm⟩
              | false =>
                go_wp2
                go_meet
                case rel => exact ⟨m, rfl, rfl, HO0.out.step kq, (or_ge' (q := (pickE ⟨65536, 0, 0, sub a3 b0⟩ ⟨-65536, 0, 0, sub b3 a0⟩ ⟨0, 65536, 0, sub a4 b1⟩ ⟨0, -65536, 0, sub b4 a1⟩ ⟨0, 0, 65536, sub a5 b2⟩ ⟨0, 0, -65536, sub b5 a2⟩ 4)) (c := ⟨0, 0, -65536, sub b5 a2⟩) hm.out (of_decide_eq_false hd)).symm⟩
            case rest =>
              clear HO hm
              obtain ⟨m, rfl, rfl, HO, hm⟩ := hcut
              obtain ⟨wr5, hwr⟩ : ∃ x, x = wc := ⟨_, rfl⟩
              subst hwr
              go_wp2
              rw [rounds_succ]
              go_wp2
              rw [rounds_succ]
              have c0 := kept_cell HO.1 rc0.out
              have c1 := kept_cell HO.1 rc1.out
              have c2 := kept_cell HO.1 rc2.out
              have f0 := kept_frozen HO.1 (rf.out 0)
              have f1 := kept_frozen HO.1 (rf.out 1)
              have f2 := kept_frozen HO.1 (rf.out 2)
              have hkk := hk.trans HO.1
              obtain ⟨_, ⟨m0, m1, m2⟩, _, _, _⟩ := HO
              go_wp2
              obtain ⟨e0, e1, e2⟩ := set3_of (v0 := .int .i64 (m.x)) (v1 := .int .i64 (m.y)) (v2 := .int .i64 (m.z)) c0 c1 c2
              exact bodyPost_ret (v := .tuple #[.agg #[.int .i64 (m.x), .int .i64 (m.y), .int .i64 (m.z)], .int .i64 (m.d)]) (by simp [results, Try.results85, go_sem, e0, e1, e2]) rfl ⟨by rw [hm.out]; rfl, kept_set3 hkk (by omega) _ _ _⟩
end Go.Proofs.Ythhpcfnoiooopaa
