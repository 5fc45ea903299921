/- gyreref.Both, Fat, Near and gyrelaw.box answer what chapter 2 says: whatever the boxes. -/
import Derived.Test.YtdbjbjgnkkhgcaaGeo7
import Derived.Test.YtdbjbjgnkkhgcaaVec3
namespace Go.Proofs.Ytdbjbjgnkkhgcaa
open Go.ChangeShapes Go.WideShapes Go.ChangeAt Go.RowKit
set_option linter.unusedSimpArgs false

def G66o6 (w : World) (b0 b1 b2 : Nat) (v0 v1 v2 v3 v4 v5 v6 v7 v8 v9 v10 v11 : Value) (w' : World) : Prop :=
  Kept w w' ∧
  w'.cell? ⟨b0, 0, none⟩ = some v0 ∧
  w'.cell? ⟨b0, 1, none⟩ = some v1 ∧
  w'.cell? ⟨b0, 2, none⟩ = some v2 ∧
  w'.cell? ⟨b0, 3, none⟩ = some v3 ∧
  w'.cell? ⟨b0, 4, none⟩ = some v4 ∧
  w'.cell? ⟨b0, 5, none⟩ = some v5 ∧
  w'.cell? ⟨b1, 0, none⟩ = some v6 ∧
  w'.cell? ⟨b1, 1, none⟩ = some v7 ∧
  w'.cell? ⟨b1, 2, none⟩ = some v8 ∧
  w'.cell? ⟨b1, 3, none⟩ = some v9 ∧
  w'.cell? ⟨b1, 4, none⟩ = some v10 ∧
  w'.cell? ⟨b1, 5, none⟩ = some v11 ∧
  w'.cell? ⟨b2, 0, none⟩ = some (cellV w' ⟨b2, 0, none⟩) ∧
  w'.cell? ⟨b2, 1, none⟩ = some (cellV w' ⟨b2, 1, none⟩) ∧
  w'.cell? ⟨b2, 2, none⟩ = some (cellV w' ⟨b2, 2, none⟩) ∧
  w'.cell? ⟨b2, 3, none⟩ = some (cellV w' ⟨b2, 3, none⟩) ∧
  w'.cell? ⟨b2, 4, none⟩ = some (cellV w' ⟨b2, 4, none⟩) ∧
  w'.cell? ⟨b2, 5, none⟩ = some (cellV w' ⟨b2, 5, none⟩) ∧
  w'.frozen? ⟨b2, 0, none⟩ = false ∧
  w'.frozen? ⟨b2, 1, none⟩ = false ∧
  w'.frozen? ⟨b2, 2, none⟩ = false ∧
  w'.frozen? ⟨b2, 3, none⟩ = false ∧
  w'.frozen? ⟨b2, 4, none⟩ = false ∧
  w'.frozen? ⟨b2, 5, none⟩ = false
theorem G66o6.step {w w1 w2 : World} {b0 b1 b2 : Nat} {v0 v1 v2 v3 v4 v5 v6 v7 v8 v9 v10 v11 : Value} (k : Kept w1 w2) (h : G66o6 w b0 b1 b2 v0 v1 v2 v3 v4 v5 v6 v7 v8 v9 v10 v11 w1) : G66o6 w b0 b1 b2 v0 v1 v2 v3 v4 v5 v6 v7 v8 v9 v10 v11 w2 := by
  obtain ⟨h0, h1, h2, h3, h4, h5, h6, h7, h8, h9, h10, h11, h12, h13, h14, h15, h16, h17, h18, h19, h20, h21, h22, h23, h24⟩ := h
  exact ⟨h0.trans k, kept_cell k h1, kept_cell k h2, kept_cell k h3, kept_cell k h4, kept_cell k h5, kept_cell k h6, kept_cell k h7, kept_cell k h8, kept_cell k h9, kept_cell k h10, kept_cell k h11, kept_cell k h12, kept_there k h13, kept_there k h14, kept_there k h15, kept_there k h16, kept_there k h17, kept_there k h18, kept_frozen k h19, kept_frozen k h20, kept_frozen k h21, kept_frozen k h22, kept_frozen k h23, kept_frozen k h24⟩
theorem G66o6.drew {w w1 : World} {b0 b1 b2 : Nat} {v0 v1 v2 v3 v4 v5 v6 v7 v8 v9 v10 v11 : Value} (h : G66o6 w b0 b1 b2 v0 v1 v2 v3 v4 v5 v6 v7 v8 v9 v10 v11 w1) : G66o6 w b0 b1 b2 v0 v1 v2 v3 v4 v5 v6 v7 v8 v9 v10 v11 w1.drew := h.step (Kept.refl _).drew
theorem G66o6.put {w w1 : World} {b0 b1 b2 : Nat} {v0 v1 v2 v3 v4 v5 v6 v7 v8 v9 v10 v11 : Value} (i : Nat) (v : Value) (ho : w.heap.size ≤ b2) (n0 : b0 ≠ b2) (n1 : b1 ≠ b2) (h : G66o6 w b0 b1 b2 v0 v1 v2 v3 v4 v5 v6 v7 v8 v9 v10 v11 w1) : G66o6 w b0 b1 b2 v0 v1 v2 v3 v4 v5 v6 v7 v8 v9 v10 v11 (w1.setCell ⟨b2, i, none⟩ v) := by
  obtain ⟨h0, h1, h2, h3, h4, h5, h6, h7, h8, h9, h10, h11, h12, h13, h14, h15, h16, h17, h18, h19, h20, h21, h22, h23, h24⟩ := h
  exact ⟨h0.setCell (p := ⟨b2, i, none⟩) ho v, (World.cell?_setCell_other _ _ _ _ (fun e => n0 (by injection e with e; exact e.symm))).trans h1, (World.cell?_setCell_other _ _ _ _ (fun e => n0 (by injection e with e; exact e.symm))).trans h2, (World.cell?_setCell_other _ _ _ _ (fun e => n0 (by injection e with e; exact e.symm))).trans h3, (World.cell?_setCell_other _ _ _ _ (fun e => n0 (by injection e with e; exact e.symm))).trans h4, (World.cell?_setCell_other _ _ _ _ (fun e => n0 (by injection e with e; exact e.symm))).trans h5, (World.cell?_setCell_other _ _ _ _ (fun e => n0 (by injection e with e; exact e.symm))).trans h6, (World.cell?_setCell_other _ _ _ _ (fun e => n1 (by injection e with e; exact e.symm))).trans h7, (World.cell?_setCell_other _ _ _ _ (fun e => n1 (by injection e with e; exact e.symm))).trans h8, (World.cell?_setCell_other _ _ _ _ (fun e => n1 (by injection e with e; exact e.symm))).trans h9, (World.cell?_setCell_other _ _ _ _ (fun e => n1 (by injection e with e; exact e.symm))).trans h10, (World.cell?_setCell_other _ _ _ _ (fun e => n1 (by injection e with e; exact e.symm))).trans h11, (World.cell?_setCell_other _ _ _ _ (fun e => n1 (by injection e with e; exact e.symm))).trans h12, put_there h13, put_there h14, put_there h15, put_there h16, put_there h17, put_there h18, (World.frozen?_setCell _ _ _ _).trans h19, (World.frozen?_setCell _ _ _ _).trans h20, (World.frozen?_setCell _ _ _ _).trans h21, (World.frozen?_setCell _ _ _ _).trans h22, (World.frozen?_setCell _ _ _ _).trans h23, (World.frozen?_setCell _ _ _ _).trans h24⟩

theorem lesser_lt {a b : Int} (h : b < a) : lesser a b = b := by unfold lesser; rw [if_pos h]
theorem lesser_ge {a b : Int} (h : ¬ b < a) : lesser a b = a := by unfold lesser; rw [if_neg h]
theorem greater_lt {a b : Int} (h : a < b) : greater a b = b := by unfold greater; rw [if_pos h]
theorem greater_ge {a b : Int} (h : ¬ a < b) : greater a b = a := by unfold greater; rw [if_neg h]
theorem refFat_calls (a0 a1 a2 a3 a4 a5 n : Int) (w : World) :
    Calls Try.prog 25 #[.agg #[.int .i64 a0, .int .i64 a1, .int .i64 a2, .int .i64 a3, .int .i64 a4, .int .i64 a5], .int .i64 n] w fun e w' => e = .returned (.agg #[.int .i64 (sub a0 n), .int .i64 (sub a1 n), .int .i64 (sub a2 n), .int .i64 (add a3 n), .int .i64 (add a4 n), .int .i64 (add a5 n)]) ∧ Kept w w' := by
  go_enter Try.func25, Try.ntmps25
  go_wp2
  refine wp_region_held_drew (S := (fun w' => Kept w w' ∧ w'.cell? ⟨w.heap.size, 0, none⟩ = some (.int .i64 a0) ∧ w'.cell? ⟨w.heap.size, 1, none⟩ = some (.int .i64 a1) ∧ w'.cell? ⟨w.heap.size, 2, none⟩ = some (.int .i64 a2) ∧ w'.cell? ⟨w.heap.size, 3, none⟩ = some (.int .i64 a3) ∧ w'.cell? ⟨w.heap.size, 4, none⟩ = some (.int .i64 a4) ∧ w'.cell? ⟨w.heap.size, 5, none⟩ = some (.int .i64 a5) ∧ w'.cell? ⟨w.heap.size + 1 + 1, 0, none⟩ = some (.int .i64 n) ∧ w'.cell? ⟨w.heap.size + 1 + 1, 1, none⟩ = some (.int .i64 n) ∧ w'.cell? ⟨w.heap.size + 1 + 1, 2, none⟩ = some (.int .i64 n) ∧ w'.cell? ⟨w.heap.size + 1, 0, none⟩ = some (cellV w' ⟨w.heap.size + 1, 0, none⟩) ∧ w'.cell? ⟨w.heap.size + 1, 1, none⟩ = some (cellV w' ⟨w.heap.size + 1, 1, none⟩) ∧ w'.cell? ⟨w.heap.size + 1, 2, none⟩ = some (cellV w' ⟨w.heap.size + 1, 2, none⟩) ∧ w'.cell? ⟨w.heap.size + 1, 3, none⟩ = some (cellV w' ⟨w.heap.size + 1, 3, none⟩) ∧ w'.cell? ⟨w.heap.size + 1, 4, none⟩ = some (cellV w' ⟨w.heap.size + 1, 4, none⟩) ∧ w'.cell? ⟨w.heap.size + 1, 5, none⟩ = some (cellV w' ⟨w.heap.size + 1, 5, none⟩) ∧ w'.frozen? ⟨w.heap.size + 1, 0, none⟩ = false ∧ w'.frozen? ⟨w.heap.size + 1, 1, none⟩ = false ∧ w'.frozen? ⟨w.heap.size + 1, 2, none⟩ = false ∧ w'.frozen? ⟨w.heap.size + 1, 3, none⟩ = false ∧ w'.frozen? ⟨w.heap.size + 1, 4, none⟩ = false ∧ w'.frozen? ⟨w.heap.size + 1, 5, none⟩ = false)) (by kernel_rfl) ?_ (fun hHeld1 => ?_)
  · (try dsimp only); exact G63o6.drew (by refine ⟨(((Kept.refl w).alloc _ _).alloc _ _).alloc _ _, ?_, ?_, ?_, ?_, ?_, ?_, ?_, ?_, ?_, cellV_of (v := .int .i64 0) ?_, cellV_of (v := .int .i64 0) ?_, cellV_of (v := .int .i64 0) ?_, cellV_of (v := .int .i64 0) ?_, cellV_of (v := .int .i64 0) ?_, cellV_of (v := .int .i64 0) ?_, ?_, ?_, ?_, ?_, ?_, ?_⟩ <;> go_simp)
  refine tkW 0 rfl ?_; refine tkW 1 rfl ?_; refine tkW 2 rfl ?_; refine tkW 4 rfl ?_
  try simp only [Act.put, List.setIfInBounds_toArray, List.set_cons_zero, List.set_cons_succ, List.getElem_toArray, List.getElem_cons_succ, List.getElem_cons_zero]
  refine tkW 5 rfl ?_; refine tkW 6 rfl ?_
  try simp only [Act.put, List.setIfInBounds_toArray, List.set_cons_zero, List.set_cons_succ, List.getElem_toArray, List.getElem_cons_succ, List.getElem_cons_zero]
  refine wpAnyH_ready (rs := [3]) (by kernel_rfl) (by simp) ?_
  refine AllReadyH.cons rfl (fun K hK => ?_) AllReadyH.nil
  first | (with_reducible refine iteYes ?hcx ?htx; case hcx => kernel_rfl) | rw [if_pos (by rfl)]
  simp only [List.getElem_toArray, List.getElem_cons_succ, List.getElem_cons_zero]
  go_simp
  (go_at_call 41; refine (refMinus_calls _ _ _ _ _ _ _).mono ?_; rintro e w1 ⟨rfl, k1⟩)
  try go_wp2_with fail
  refine hK.out _ _ ?_ (fun hHeld2 => ?_)
  · (try dsimp only); exact G63o6.step k1 hHeld1
  clear hK K hHeld1
  try simp only [Act.put, List.setIfInBounds_toArray, List.set_cons_zero, List.set_cons_succ, List.getElem_toArray, List.getElem_cons_succ, List.getElem_cons_zero]
  refine wpAnyH_ready (rs := [7]) (by kernel_rfl) (by simp) ?_
  refine AllReadyH.cons rfl (fun K hK => ?_) AllReadyH.nil
  first | (with_reducible refine iteYes ?hcx ?htx; case hcx => kernel_rfl) | rw [if_pos (by rfl)]
  simp only [List.getElem_toArray, List.getElem_cons_succ, List.getElem_cons_zero]
  go_simp
  (go_at_call 42; refine (refPlus_calls _ _ _ _ _ _ _).mono ?_; rintro e w2 ⟨rfl, k2⟩)
  try go_wp2_with fail
  refine hK.out _ _ ?_ (fun hHeld3 => ?_)
  · (try dsimp only); exact G63o6.step k2 hHeld2
  clear hK K hHeld2
  try simp only [Act.put, List.setIfInBounds_toArray, List.set_cons_zero, List.set_cons_succ, List.getElem_toArray, List.getElem_cons_succ, List.getElem_cons_zero]
  refine tkW 8 rfl ?_
  try simp only [Act.put, List.setIfInBounds_toArray, List.set_cons_zero, List.set_cons_succ, List.getElem_toArray, List.getElem_cons_succ, List.getElem_cons_zero]
  refine wpAnyH_ready (rs := [9]) (by kernel_rfl) (by simp) ?_
  refine AllReadyH.cons rfl (fun K hK => ?_) AllReadyH.nil
  first | (with_reducible refine iteYes ?hcx ?htx; case hcx => kernel_rfl) | rw [if_pos (by rfl)]
  simp only [List.getElem_toArray, List.getElem_cons_succ, List.getElem_cons_zero]
  go_simp
  refine hK.out _ _ ?_ (fun hHeld4 => ?_)
  · (try dsimp only); exact (G63o6.put 5 _ (by omega) (by omega) (by omega) (G63o6.put 4 _ (by omega) (by omega) (by omega) (G63o6.put 3 _ (by omega) (by omega) (by omega) (G63o6.put 2 _ (by omega) (by omega) (by omega) (G63o6.put 1 _ (by omega) (by omega) (by omega) (G63o6.put 0 _ (by omega) (by omega) (by omega) hHeld3))))))
  clear hK K
  try simp only [Act.put, List.setIfInBounds_toArray, List.set_cons_zero, List.set_cons_succ, List.getElem_toArray, List.getElem_cons_succ, List.getElem_cons_zero]
  refine wpAnyH_done (by kernel_rfl) ?_ _
  go_wp2
  obtain ⟨hk, _, _, _, _, _, _, _, _, _, c0, c1, c2, c3, c4, c5, _⟩ := hHeld3
  obtain ⟨e0, e1, e2, e3, e4, e5⟩ := set6_of (v0 := .int .i64 (sub a0 n)) (v1 := .int .i64 (sub a1 n)) (v2 := .int .i64 (sub a2 n)) (v3 := .int .i64 (add a3 n)) (v4 := .int .i64 (add a4 n)) (v5 := .int .i64 (add a5 n)) c0 c1 c2 c3 c4 c5
  exact bodyPost_ret (v := .agg #[.int .i64 (sub a0 n), .int .i64 (sub a1 n), .int .i64 (sub a2 n), .int .i64 (add a3 n), .int .i64 (add a4 n), .int .i64 (add a5 n)]) (by simp [results, Try.results25, go_sem, e0, e1, e2, e3, e4, e5]) rfl ⟨rfl, kept_set6 hk (by omega) _ _ _ _ _ _⟩
end Go.Proofs.Ytdbjbjgnkkhgcaa
