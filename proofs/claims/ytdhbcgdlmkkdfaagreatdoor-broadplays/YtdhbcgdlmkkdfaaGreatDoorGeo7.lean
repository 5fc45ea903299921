/- gyreref.Parts, Meet, Within answer what chapter 2 says: whatever the boxes. -/
import Derived.Test.YtdhbcgdlmkkdfaaGreatDoorGeo6
namespace Go.Proofs.YtdhbcgdlmkkdfaaGreatDoor
open Go.ChangeShapes Go.WideShapes Go.ChangeAt Go.RowKit
set_option linter.unusedSimpArgs false

theorem meetB_iff {a0 a1 a2 a3 a4 a5 b0 b1 b2 b3 b4 b5 : Int} : meetB a0 a1 a2 a3 a4 a5 b0 b1 b2 b3 b4 b5 = true ↔ ((a0 ≤ b3 ∧ b0 ≤ a3) ∧ (a1 ≤ b4 ∧ b1 ≤ a4)) ∧ (a2 ≤ b5 ∧ b2 ≤ a5) := by simp [meetB]
theorem withinB_iff {a0 a1 a2 a3 a4 a5 b0 b1 b2 b3 b4 b5 : Int} : withinB a0 a1 a2 a3 a4 a5 b0 b1 b2 b3 b4 b5 = true ↔ ((b0 ≤ a0 ∧ a3 ≤ b3) ∧ (b1 ≤ a1 ∧ a4 ≤ b4)) ∧ (b2 ≤ a2 ∧ a5 ≤ b5) := by simp [withinB]
theorem ret_bool {a b : Bool} (h : a = b) : Ending.returned (.bool a) = .returned (.bool b) := by rw [h]

/-- A slice of three ints. -/
def Row3 (b : Nat) (x y z : Int) (w : World) : Prop := w.cell? ⟨b, 0, none⟩ = some (.int .i64 x) ∧ w.cell? ⟨b, 1, none⟩ = some (.int .i64 y) ∧ w.cell? ⟨b, 2, none⟩ = some (.int .i64 z)
theorem Row3.step {b : Nat} {x y z : Int} {w w' : World} (k : Kept w w') (h : Row3 b x y z w) : Row3 b x y z w' := ⟨kept_cell k h.1, kept_cell k h.2.1, kept_cell k h.2.2⟩
theorem refParts_calls (x y z : Int) (w : World) : Calls Tryz.prog 6 #[.agg #[.int .i64 x, .int .i64 y, .int .i64 z]] w fun e w' => ∃ b, e = .returned (.slice (some ⟨b, 0, none⟩) 3 3) ∧ Kept w w' ∧ Row3 b x y z w' := by
  go_enter Tryz.func6, Tryz.ntmps6
  go_wp2
  go_ret
  exact ⟨w.heap.size + 1, rfl, ((Kept.refl _).alloc _ _).alloc _ _, by go_simp, by go_simp, by go_simp⟩
set_option maxHeartbeats 4000000 in
theorem refMeet_calls (a0 a1 a2 a3 a4 a5 b0 b1 b2 b3 b4 b5 : Int) (w : World) :
    Calls Tryz.prog 11 #[.agg #[.int .i64 a0, .int .i64 a1, .int .i64 a2, .int .i64 a3, .int .i64 a4, .int .i64 a5], .agg #[.int .i64 b0, .int .i64 b1, .int .i64 b2, .int .i64 b3, .int .i64 b4, .int .i64 b5]] w fun e w' => e = .returned (.bool (meetB a0 a1 a2 a3 a4 a5 b0 b1 b2 b3 b4 b5)) ∧ Kept w w' := by
  go_enter Tryz.func11, Tryz.ntmps11
  go_wp2
  refine wp_region_held_drew (S := (fun w' => Kept w w' ∧ w'.cell? ⟨w.heap.size, 0, none⟩ = some (.int .i64 a0) ∧ w'.cell? ⟨w.heap.size, 1, none⟩ = some (.int .i64 a1) ∧ w'.cell? ⟨w.heap.size, 2, none⟩ = some (.int .i64 a2) ∧ w'.cell? ⟨w.heap.size, 3, none⟩ = some (.int .i64 a3) ∧ w'.cell? ⟨w.heap.size, 4, none⟩ = some (.int .i64 a4) ∧ w'.cell? ⟨w.heap.size, 5, none⟩ = some (.int .i64 a5) ∧ w'.cell? ⟨w.heap.size + 1, 0, none⟩ = some (.int .i64 b0) ∧ w'.cell? ⟨w.heap.size + 1, 1, none⟩ = some (.int .i64 b1) ∧ w'.cell? ⟨w.heap.size + 1, 2, none⟩ = some (.int .i64 b2) ∧ w'.cell? ⟨w.heap.size + 1, 3, none⟩ = some (.int .i64 b3) ∧ w'.cell? ⟨w.heap.size + 1, 4, none⟩ = some (.int .i64 b4) ∧ w'.cell? ⟨w.heap.size + 1, 5, none⟩ = some (.int .i64 b5))) (by kernel_rfl) ?_ (fun hHeld1 => ?_)
  · (try dsimp only); exact G66.drew (by refine ⟨((Kept.refl w).alloc _ _).alloc _ _, ?_, ?_, ?_, ?_, ?_, ?_, ?_, ?_, ?_, ?_, ?_, ?_⟩ <;> go_simp)
  refine tkW 0 rfl ?_; refine tkW 1 rfl ?_; refine tkW 3 rfl ?_; refine tkW 4 rfl ?_
  try simp only [Act.put, List.setIfInBounds_toArray, List.set_cons_zero, List.set_cons_succ, List.getElem_toArray, List.getElem_cons_succ, List.getElem_cons_zero]
  refine tkW 6 rfl ?_; refine tkW 7 rfl ?_; refine tkW 9 rfl ?_; refine tkW 10 rfl ?_
  try simp only [Act.put, List.setIfInBounds_toArray, List.set_cons_zero, List.set_cons_succ, List.getElem_toArray, List.getElem_cons_succ, List.getElem_cons_zero]
  refine wpAnyH_ready (rs := [2]) (by kernel_rfl) (by simp) ?_
  refine AllReadyH.cons rfl (fun K hK => ?_) AllReadyH.nil
  first | (with_reducible refine iteYes ?hcx ?htx; case hcx => kernel_rfl) | rw [if_pos (by rfl)]
  simp only [List.getElem_toArray, List.getElem_cons_succ, List.getElem_cons_zero]
  go_simp
  (go_at_call 6; refine (refParts_calls _ _ _ _).mono ?_; rintro e w1 ⟨q0, rfl, k1, r0⟩)
  try go_wp2_with fail
  refine hK.out _ _ ?_ (fun hHeld2 => ?_)
  · (try dsimp only); exact G66.step k1 hHeld1
  clear hK K hHeld1
  try simp only [Act.put, List.setIfInBounds_toArray, List.set_cons_zero, List.set_cons_succ, List.getElem_toArray, List.getElem_cons_succ, List.getElem_cons_zero]
  refine wpAnyH_ready (rs := [5]) (by kernel_rfl) (by simp) ?_
  refine AllReadyH.cons rfl (fun K hK => ?_) AllReadyH.nil
  first | (with_reducible refine iteYes ?hcx ?htx; case hcx => kernel_rfl) | rw [if_pos (by rfl)]
  simp only [List.getElem_toArray, List.getElem_cons_succ, List.getElem_cons_zero]
  go_simp
  (go_at_call 6; refine (refParts_calls _ _ _ _).mono ?_; rintro e w2 ⟨q1, rfl, k2, r1⟩)
  try go_wp2_with fail
  refine hK.out _ _ ?_ (fun hHeld3 => ?_)
  · (try dsimp only); exact G66.step k2 hHeld2
  clear hK K hHeld2
  try simp only [Act.put, List.setIfInBounds_toArray, List.set_cons_zero, List.set_cons_succ, List.getElem_toArray, List.getElem_cons_succ, List.getElem_cons_zero]
  refine wpAnyH_ready (rs := [8]) (by kernel_rfl) (by simp) ?_
  refine AllReadyH.cons rfl (fun K hK => ?_) AllReadyH.nil
  first | (with_reducible refine iteYes ?hcx ?htx; case hcx => kernel_rfl) | rw [if_pos (by rfl)]
  simp only [List.getElem_toArray, List.getElem_cons_succ, List.getElem_cons_zero]
  go_simp
  (go_at_call 6; refine (refParts_calls _ _ _ _).mono ?_; rintro e w3 ⟨q2, rfl, k3, r2⟩)
  try go_wp2_with fail
  refine hK.out _ _ ?_ (fun hHeld4 => ?_)
  · (try dsimp only); exact G66.step k3 hHeld3
  clear hK K hHeld3
  try simp only [Act.put, List.setIfInBounds_toArray, List.set_cons_zero, List.set_cons_succ, List.getElem_toArray, List.getElem_cons_succ, List.getElem_cons_zero]
  refine wpAnyH_ready (rs := [11]) (by kernel_rfl) (by simp) ?_
  refine AllReadyH.cons rfl (fun K hK => ?_) AllReadyH.nil
  first | (with_reducible refine iteYes ?hcx ?htx; case hcx => kernel_rfl) | rw [if_pos (by rfl)]
  simp only [List.getElem_toArray, List.getElem_cons_succ, List.getElem_cons_zero]
  go_simp
  (go_at_call 6; refine (refParts_calls _ _ _ _).mono ?_; rintro e w4 ⟨q3, rfl, k4, r3⟩)
  try go_wp2_with fail
  refine hK.out _ _ ?_ (fun hHeld5 => ?_)
  · (try dsimp only); exact G66.step k4 hHeld4
  clear hK K hHeld4
  try simp only [Act.put, List.setIfInBounds_toArray, List.set_cons_zero, List.set_cons_succ, List.getElem_toArray, List.getElem_cons_succ, List.getElem_cons_zero]
  refine tkW 12 rfl ?_; refine tkW 13 rfl ?_; refine tkW 14 rfl ?_; refine tkW 15 rfl ?_
  try simp only [Act.put, List.setIfInBounds_toArray, List.set_cons_zero, List.set_cons_succ, List.getElem_toArray, List.getElem_cons_succ, List.getElem_cons_zero]
  refine wpAnyH_done (by kernel_rfl) ?_ _
  have hk : Kept w w4 := hHeld5.1
  obtain ⟨x0, x1, x2⟩ := (r0.step k2).step (k3.trans k4)
  obtain ⟨x3, x4, x5⟩ := r1.step (k3.trans k4)
  obtain ⟨y0, y1, y2⟩ := r2.step k4
  obtain ⟨y3, y4, y5⟩ := r3
  clear r0 r1 r2 k1 k2 k3 k4 hHeld5
  go_wp2
  refine wp_loop_rounds 4 ?_
  rw [rounds_succ]
  go_wp2
  cases d0 : decide (b3 < a0) with
  | true =>
    refine wp_region_held_drew (S := (fun w' => Kept w w' ∧ w'.cell? ⟨q0, 0, none⟩ = some (.int .i64 a0) ∧ w'.cell? ⟨q0, 1, none⟩ = some (.int .i64 a1) ∧ w'.cell? ⟨q0, 2, none⟩ = some (.int .i64 a2) ∧ w'.cell? ⟨q1, 0, none⟩ = some (.int .i64 a3) ∧ w'.cell? ⟨q1, 1, none⟩ = some (.int .i64 a4) ∧ w'.cell? ⟨q1, 2, none⟩ = some (.int .i64 a5) ∧ w'.cell? ⟨q2, 0, none⟩ = some (.int .i64 b0) ∧ w'.cell? ⟨q2, 1, none⟩ = some (.int .i64 b1) ∧ w'.cell? ⟨q2, 2, none⟩ = some (.int .i64 b2) ∧ w'.cell? ⟨q3, 0, none⟩ = some (.int .i64 b3) ∧ w'.cell? ⟨q3, 1, none⟩ = some (.int .i64 b4) ∧ w'.cell? ⟨q3, 2, none⟩ = some (.int .i64 b5))) (by kernel_rfl) ?_ (fun hHeld1 => ?_)
    · (try dsimp only); exact ⟨Kept.drew (by assumption), kept_cell (Kept.refl _).drew (by assumption), kept_cell (Kept.refl _).drew (by assumption), kept_cell (Kept.refl _).drew (by assumption), kept_cell (Kept.refl _).drew (by assumption), kept_cell (Kept.refl _).drew (by assumption), kept_cell (Kept.refl _).drew (by assumption), kept_cell (Kept.refl _).drew (by assumption), kept_cell (Kept.refl _).drew (by assumption), kept_cell (Kept.refl _).drew (by assumption), kept_cell (Kept.refl _).drew (by assumption), kept_cell (Kept.refl _).drew (by assumption), kept_cell (Kept.refl _).drew (by assumption)⟩
    refine tkW 0 rfl ?_; refine tkW 1 rfl ?_; refine tkW 2 rfl ?_; refine tkW 3 rfl ?_
    try simp only [Act.put, List.setIfInBounds_toArray, List.set_cons_zero, List.set_cons_succ, List.getElem_toArray, List.getElem_cons_succ, List.getElem_cons_zero]
    refine tkW 4 rfl ?_; refine tkW 5 rfl ?_; refine tkW 6 rfl ?_; refine tkW 7 rfl ?_
    try simp only [Act.put, List.setIfInBounds_toArray, List.set_cons_zero, List.set_cons_succ, List.getElem_toArray, List.getElem_cons_succ, List.getElem_cons_zero]
    refine tkW 8 rfl ?_; refine tkW 9 rfl ?_
    try simp only [Act.put, List.setIfInBounds_toArray, List.set_cons_zero, List.set_cons_succ, List.getElem_toArray, List.getElem_cons_succ, List.getElem_cons_zero]
    refine skW 10 rfl ?_; refine skW 11 rfl ?_; refine skW 12 rfl ?_; refine skW 13 rfl ?_
    try simp only [Act.put, List.setIfInBounds_toArray, List.set_cons_zero, List.set_cons_succ, List.getElem_toArray, List.getElem_cons_succ, List.getElem_cons_zero]
    refine skW 14 rfl ?_; refine skW 15 rfl ?_; refine skW 16 rfl ?_; refine skW 17 rfl ?_
    try simp only [Act.put, List.setIfInBounds_toArray, List.set_cons_zero, List.set_cons_succ, List.getElem_toArray, List.getElem_cons_succ, List.getElem_cons_zero]
    refine skW 18 rfl ?_
    try simp only [Act.put, List.setIfInBounds_toArray, List.set_cons_zero, List.set_cons_succ, List.getElem_toArray, List.getElem_cons_succ, List.getElem_cons_zero]
    refine tkW 19 rfl ?_
    try simp only [Act.put, List.setIfInBounds_toArray, List.set_cons_zero, List.set_cons_succ, List.getElem_toArray, List.getElem_cons_succ, List.getElem_cons_zero]
    refine wpAnyH_done (by kernel_rfl) ?_ _
    have hk1 := hHeld1.1
    clear hHeld1
    go_wp2
    go_ret
    exact ⟨ret_bool (Eq.symm (by rw [Bool.eq_false_iff, ne_eq, meetB_iff]; simp only [decide_eq_true_eq, decide_eq_false_iff_not] at *; omega)), hk1⟩
  | false =>
    cases d1 : decide (a3 < b0) with
    | true =>
      refine wp_region_held_drew (S := (fun w' => Kept w w' ∧ w'.cell? ⟨q0, 0, none⟩ = some (.int .i64 a0) ∧ w'.cell? ⟨q0, 1, none⟩ = some (.int .i64 a1) ∧ w'.cell? ⟨q0, 2, none⟩ = some (.int .i64 a2) ∧ w'.cell? ⟨q1, 0, none⟩ = some (.int .i64 a3) ∧ w'.cell? ⟨q1, 1, none⟩ = some (.int .i64 a4) ∧ w'.cell? ⟨q1, 2, none⟩ = some (.int .i64 a5) ∧ w'.cell? ⟨q2, 0, none⟩ = some (.int .i64 b0) ∧ w'.cell? ⟨q2, 1, none⟩ = some (.int .i64 b1) ∧ w'.cell? ⟨q2, 2, none⟩ = some (.int .i64 b2) ∧ w'.cell? ⟨q3, 0, none⟩ = some (.int .i64 b3) ∧ w'.cell? ⟨q3, 1, none⟩ = some (.int .i64 b4) ∧ w'.cell? ⟨q3, 2, none⟩ = some (.int .i64 b5))) (by kernel_rfl) ?_ (fun hHeld1 => ?_)
      · (try dsimp only); exact ⟨Kept.drew (by assumption), kept_cell (Kept.refl _).drew (by assumption), kept_cell (Kept.refl _).drew (by assumption), kept_cell (Kept.refl _).drew (by assumption), kept_cell (Kept.refl _).drew (by assumption), kept_cell (Kept.refl _).drew (by assumption), kept_cell (Kept.refl _).drew (by assumption), kept_cell (Kept.refl _).drew (by assumption), kept_cell (Kept.refl _).drew (by assumption), kept_cell (Kept.refl _).drew (by assumption), kept_cell (Kept.refl _).drew (by assumption), kept_cell (Kept.refl _).drew (by assumption), kept_cell (Kept.refl _).drew (by assumption)⟩
      refine tkW 0 rfl ?_; refine tkW 1 rfl ?_; refine tkW 2 rfl ?_; refine tkW 3 rfl ?_
      try simp only [Act.put, List.setIfInBounds_toArray, List.set_cons_zero, List.set_cons_succ, List.getElem_toArray, List.getElem_cons_succ, List.getElem_cons_zero]
      refine tkW 4 rfl ?_; refine tkW 5 rfl ?_; refine tkW 6 rfl ?_; refine tkW 7 rfl ?_
      try simp only [Act.put, List.setIfInBounds_toArray, List.set_cons_zero, List.set_cons_succ, List.getElem_toArray, List.getElem_cons_succ, List.getElem_cons_zero]
      refine tkW 8 rfl ?_; refine tkW 9 rfl ?_
      try simp only [Act.put, List.setIfInBounds_toArray, List.set_cons_zero, List.set_cons_succ, List.getElem_toArray, List.getElem_cons_succ, List.getElem_cons_zero]
      refine tkW 10 rfl ?_; refine tkW 11 rfl ?_; refine tkW 12 rfl ?_; refine tkW 13 rfl ?_
      try simp only [Act.put, List.setIfInBounds_toArray, List.set_cons_zero, List.set_cons_succ, List.getElem_toArray, List.getElem_cons_succ, List.getElem_cons_zero]
      refine tkW 14 rfl ?_; refine tkW 15 rfl ?_; refine tkW 16 rfl ?_; refine tkW 17 rfl ?_
      try simp only [Act.put, List.setIfInBounds_toArray, List.set_cons_zero, List.set_cons_succ, List.getElem_toArray, List.getElem_cons_succ, List.getElem_cons_zero]
      refine tkW 18 rfl ?_
      try simp only [Act.put, List.setIfInBounds_toArray, List.set_cons_zero, List.set_cons_succ, List.getElem_toArray, List.getElem_cons_succ, List.getElem_cons_zero]
      refine tkW 19 rfl ?_
      try simp only [Act.put, List.setIfInBounds_toArray, List.set_cons_zero, List.set_cons_succ, List.getElem_toArray, List.getElem_cons_succ, List.getElem_cons_zero]
      refine wpAnyH_done (by kernel_rfl) ?_ _
      have hk1 := hHeld1.1
      clear hHeld1
      go_wp2
      go_ret
      exact ⟨ret_bool (Eq.symm (by rw [Bool.eq_false_iff, ne_eq, meetB_iff]; simp only [decide_eq_true_eq, decide_eq_false_iff_not] at *; omega)), hk1⟩
    | false =>
      refine wp_region_held_drew (S := (fun w' => Kept w w' ∧ w'.cell? ⟨q0, 0, none⟩ = some (.int .i64 a0) ∧ w'.cell? ⟨q0, 1, none⟩ = some (.int .i64 a1) ∧ w'.cell? ⟨q0, 2, none⟩ = some (.int .i64 a2) ∧ w'.cell? ⟨q1, 0, none⟩ = some (.int .i64 a3) ∧ w'.cell? ⟨q1, 1, none⟩ = some (.int .i64 a4) ∧ w'.cell? ⟨q1, 2, none⟩ = some (.int .i64 a5) ∧ w'.cell? ⟨q2, 0, none⟩ = some (.int .i64 b0) ∧ w'.cell? ⟨q2, 1, none⟩ = some (.int .i64 b1) ∧ w'.cell? ⟨q2, 2, none⟩ = some (.int .i64 b2) ∧ w'.cell? ⟨q3, 0, none⟩ = some (.int .i64 b3) ∧ w'.cell? ⟨q3, 1, none⟩ = some (.int .i64 b4) ∧ w'.cell? ⟨q3, 2, none⟩ = some (.int .i64 b5))) (by kernel_rfl) ?_ (fun hHeld1 => ?_)
      · (try dsimp only); exact ⟨Kept.drew (by assumption), kept_cell (Kept.refl _).drew (by assumption), kept_cell (Kept.refl _).drew (by assumption), kept_cell (Kept.refl _).drew (by assumption), kept_cell (Kept.refl _).drew (by assumption), kept_cell (Kept.refl _).drew (by assumption), kept_cell (Kept.refl _).drew (by assumption), kept_cell (Kept.refl _).drew (by assumption), kept_cell (Kept.refl _).drew (by assumption), kept_cell (Kept.refl _).drew (by assumption), kept_cell (Kept.refl _).drew (by assumption), kept_cell (Kept.refl _).drew (by assumption), kept_cell (Kept.refl _).drew (by assumption)⟩
      refine tkW 0 rfl ?_; refine tkW 1 rfl ?_; refine tkW 2 rfl ?_; refine tkW 3 rfl ?_
      try simp only [Act.put, List.setIfInBounds_toArray, List.set_cons_zero, List.set_cons_succ, List.getElem_toArray, List.getElem_cons_succ, List.getElem_cons_zero]
      refine tkW 4 rfl ?_; refine tkW 5 rfl ?_; refine tkW 6 rfl ?_; refine tkW 7 rfl ?_
      try simp only [Act.put, List.setIfInBounds_toArray, List.set_cons_zero, List.set_cons_succ, List.getElem_toArray, List.getElem_cons_succ, List.getElem_cons_zero]
      refine tkW 8 rfl ?_; refine tkW 9 rfl ?_
      try simp only [Act.put, List.setIfInBounds_toArray, List.set_cons_zero, List.set_cons_succ, List.getElem_toArray, List.getElem_cons_succ, List.getElem_cons_zero]
      refine tkW 10 rfl ?_; refine tkW 11 rfl ?_; refine tkW 12 rfl ?_; refine tkW 13 rfl ?_
      try simp only [Act.put, List.setIfInBounds_toArray, List.set_cons_zero, List.set_cons_succ, List.getElem_toArray, List.getElem_cons_succ, List.getElem_cons_zero]
      refine tkW 14 rfl ?_; refine tkW 15 rfl ?_; refine tkW 16 rfl ?_; refine tkW 17 rfl ?_
      try simp only [Act.put, List.setIfInBounds_toArray, List.set_cons_zero, List.set_cons_succ, List.getElem_toArray, List.getElem_cons_succ, List.getElem_cons_zero]
      refine tkW 18 rfl ?_
      try simp only [Act.put, List.setIfInBounds_toArray, List.set_cons_zero, List.set_cons_succ, List.getElem_toArray, List.getElem_cons_succ, List.getElem_cons_zero]
      refine tkW 19 rfl ?_
      try simp only [Act.put, List.setIfInBounds_toArray, List.set_cons_zero, List.set_cons_succ, List.getElem_toArray, List.getElem_cons_succ, List.getElem_cons_zero]
      refine wpAnyH_done (by kernel_rfl) ?_ _
      obtain ⟨hk1, x0, x1, x2, x3, x4, x5, y0, y1, y2, y3, y4, y5⟩ := hHeld1
      go_wp2
      rw [rounds_succ]
      go_wp2
      cases d2 : decide (b4 < a1) with
      | true =>
        refine wp_region_held_drew (S := (fun w' => Kept w w' ∧ w'.cell? ⟨q0, 0, none⟩ = some (.int .i64 a0) ∧ w'.cell? ⟨q0, 1, none⟩ = some (.int .i64 a1) ∧ w'.cell? ⟨q0, 2, none⟩ = some (.int .i64 a2) ∧ w'.cell? ⟨q1, 0, none⟩ = some (.int .i64 a3) ∧ w'.cell? ⟨q1, 1, none⟩ = some (.int .i64 a4) ∧ w'.cell? ⟨q1, 2, none⟩ = some (.int .i64 a5) ∧ w'.cell? ⟨q2, 0, none⟩ = some (.int .i64 b0) ∧ w'.cell? ⟨q2, 1, none⟩ = some (.int .i64 b1) ∧ w'.cell? ⟨q2, 2, none⟩ = some (.int .i64 b2) ∧ w'.cell? ⟨q3, 0, none⟩ = some (.int .i64 b3) ∧ w'.cell? ⟨q3, 1, none⟩ = some (.int .i64 b4) ∧ w'.cell? ⟨q3, 2, none⟩ = some (.int .i64 b5))) (by kernel_rfl) ?_ (fun hHeld1 => ?_)
        · (try dsimp only); exact ⟨Kept.drew (by assumption), kept_cell (Kept.refl _).drew (by assumption), kept_cell (Kept.refl _).drew (by assumption), kept_cell (Kept.refl _).drew (by assumption), kept_cell (Kept.refl _).drew (by assumption), kept_cell (Kept.refl _).drew (by assumption), kept_cell (Kept.refl _).drew (by assumption), kept_cell (Kept.refl _).drew (by assumption), kept_cell (Kept.refl _).drew (by assumption), kept_cell (Kept.refl _).drew (by assumption), kept_cell (Kept.refl _).drew (by assumption), kept_cell (Kept.refl _).drew (by assumption), kept_cell (Kept.refl _).drew (by assumption)⟩
        refine tkW 0 rfl ?_; refine tkW 1 rfl ?_; refine tkW 2 rfl ?_; refine tkW 3 rfl ?_
        try simp only [Act.put, List.setIfInBounds_toArray, List.set_cons_zero, List.set_cons_succ, List.getElem_toArray, List.getElem_cons_succ, List.getElem_cons_zero]
        refine tkW 4 rfl ?_; refine tkW 5 rfl ?_; refine tkW 6 rfl ?_; refine tkW 7 rfl ?_
        try simp only [Act.put, List.setIfInBounds_toArray, List.set_cons_zero, List.set_cons_succ, List.getElem_toArray, List.getElem_cons_succ, List.getElem_cons_zero]
        refine tkW 8 rfl ?_; refine tkW 9 rfl ?_
        try simp only [Act.put, List.setIfInBounds_toArray, List.set_cons_zero, List.set_cons_succ, List.getElem_toArray, List.getElem_cons_succ, List.getElem_cons_zero]
        refine skW 10 rfl ?_; refine skW 11 rfl ?_; refine skW 12 rfl ?_; refine skW 13 rfl ?_
        try simp only [Act.put, List.setIfInBounds_toArray, List.set_cons_zero, List.set_cons_succ, List.getElem_toArray, List.getElem_cons_succ, List.getElem_cons_zero]
        refine skW 14 rfl ?_; refine skW 15 rfl ?_; refine skW 16 rfl ?_; refine skW 17 rfl ?_
        try simp only [Act.put, List.setIfInBounds_toArray, List.set_cons_zero, List.set_cons_succ, List.getElem_toArray, List.getElem_cons_succ, List.getElem_cons_zero]
        refine skW 18 rfl ?_
        try simp only [Act.put, List.setIfInBounds_toArray, List.set_cons_zero, List.set_cons_succ, List.getElem_toArray, List.getElem_cons_succ, List.getElem_cons_zero]
        refine tkW 19 rfl ?_
        try simp only [Act.put, List.setIfInBounds_toArray, List.set_cons_zero, List.set_cons_succ, List.getElem_toArray, List.getElem_cons_succ, List.getElem_cons_zero]
        refine wpAnyH_done (by kernel_rfl) ?_ _
        have hk2 := hHeld1.1
        clear hHeld1
        go_wp2
        go_ret
        exact ⟨ret_bool (Eq.symm (by rw [Bool.eq_false_iff, ne_eq, meetB_iff]; simp only [decide_eq_true_eq, decide_eq_false_iff_not] at *; omega)), hk2⟩
      | false =>
        cases d3 : decide (a4 < b1) with
        | true =>
          refine wp_region_held_drew (S := (fun w' => Kept w w' ∧ w'.cell? ⟨q0, 0, none⟩ = some (.int .i64 a0) ∧ w'.cell? ⟨q0, 1, none⟩ = some (.int .i64 a1) ∧ w'.cell? ⟨q0, 2, none⟩ = some (.int .i64 a2) ∧ w'.cell? ⟨q1, 0, none⟩ = some (.int .i64 a3) ∧ w'.cell? ⟨q1, 1, none⟩ = some (.int .i64 a4) ∧ w'.cell? ⟨q1, 2, none⟩ = some (.int .i64 a5) ∧ w'.cell? ⟨q2, 0, none⟩ = some (.int .i64 b0) ∧ w'.cell? ⟨q2, 1, none⟩ = some (.int .i64 b1) ∧ w'.cell? ⟨q2, 2, none⟩ = some (.int .i64 b2) ∧ w'.cell? ⟨q3, 0, none⟩ = some (.int .i64 b3) ∧ w'.cell? ⟨q3, 1, none⟩ = some (.int .i64 b4) ∧ w'.cell? ⟨q3, 2, none⟩ = some (.int .i64 b5))) (by kernel_rfl) ?_ (fun hHeld1 => ?_)
          · (try dsimp only); exact ⟨Kept.drew (by assumption), kept_cell (Kept.refl _).drew (by assumption), kept_cell (Kept.refl _).drew (by assumption), kept_cell (Kept.refl _).drew (by assumption), kept_cell (Kept.refl _).drew (by assumption), kept_cell (Kept.refl _).drew (by assumption), kept_cell (Kept.refl _).drew (by assumption), kept_cell (Kept.refl _).drew (by assumption), kept_cell (Kept.refl _).drew (by assumption), kept_cell (Kept.refl _).drew (by assumption), kept_cell (Kept.refl _).drew (by assumption), kept_cell (Kept.refl _).drew (by assumption), kept_cell (Kept.refl _).drew (by assumption)⟩
          refine tkW 0 rfl ?_; refine tkW 1 rfl ?_; refine tkW 2 rfl ?_; refine tkW 3 rfl ?_
          try simp only [Act.put, List.setIfInBounds_toArray, List.set_cons_zero, List.set_cons_succ, List.getElem_toArray, List.getElem_cons_succ, List.getElem_cons_zero]
          refine tkW 4 rfl ?_; refine tkW 5 rfl ?_; refine tkW 6 rfl ?_; refine tkW 7 rfl ?_
          try simp only [Act.put, List.setIfInBounds_toArray, List.set_cons_zero, List.set_cons_succ, List.getElem_toArray, List.getElem_cons_succ, List.getElem_cons_zero]
          refine tkW 8 rfl ?_; refine tkW 9 rfl ?_
          try simp only [Act.put, List.setIfInBounds_toArray, List.set_cons_zero, List.set_cons_succ, List.getElem_toArray, List.getElem_cons_succ, List.getElem_cons_zero]
          refine tkW 10 rfl ?_; refine tkW 11 rfl ?_; refine tkW 12 rfl ?_; refine tkW 13 rfl ?_
          try simp only [Act.put, List.setIfInBounds_toArray, List.set_cons_zero, List.set_cons_succ, List.getElem_toArray, List.getElem_cons_succ, List.getElem_cons_zero]
          refine tkW 14 rfl ?_; refine tkW 15 rfl ?_; refine tkW 16 rfl ?_; refine tkW 17 rfl ?_
          try simp only [Act.put, List.setIfInBounds_toArray, List.set_cons_zero, List.set_cons_succ, List.getElem_toArray, List.getElem_cons_succ, List.getElem_cons_zero]
          refine tkW 18 rfl ?_
          try simp only [Act.put, List.setIfInBounds_toArray, List.set_cons_zero, List.set_cons_succ, List.getElem_toArray, List.getElem_cons_succ, List.getElem_cons_zero]
          refine tkW 19 rfl ?_
          try simp only [Act.put, List.setIfInBounds_toArray, List.set_cons_zero, List.set_cons_succ, List.getElem_toArray, List.getElem_cons_succ, List.getElem_cons_zero]
          refine wpAnyH_done (by kernel_rfl) ?_ _
          have hk2 := hHeld1.1
          clear hHeld1
          go_wp2
          go_ret
          exact ⟨ret_bool (Eq.symm (by rw [Bool.eq_false_iff, ne_eq, meetB_iff]; simp only [decide_eq_true_eq, decide_eq_false_iff_not] at *; omega)), hk2⟩
        | false =>
          refine wp_region_held_drew (S := (fun w' => Kept w w' ∧ w'.cell? ⟨q0, 0, none⟩ = some (.int .i64 a0) ∧ w'.cell? ⟨q0, 1, none⟩ = some (.int .i64 a1) ∧ w'.cell? ⟨q0, 2, none⟩ = some (.int .i64 a2) ∧ w'.cell? ⟨q1, 0, none⟩ = some (.int .i64 a3) ∧ w'.cell? ⟨q1, 1, none⟩ = some (.int .i64 a4) ∧ w'.cell? ⟨q1, 2, none⟩ = some (.int .i64 a5) ∧ w'.cell? ⟨q2, 0, none⟩ = some (.int .i64 b0) ∧ w'.cell? ⟨q2, 1, none⟩ = some (.int .i64 b1) ∧ w'.cell? ⟨q2, 2, none⟩ = some (.int .i64 b2) ∧ w'.cell? ⟨q3, 0, none⟩ = some (.int .i64 b3) ∧ w'.cell? ⟨q3, 1, none⟩ = some (.int .i64 b4) ∧ w'.cell? ⟨q3, 2, none⟩ = some (.int .i64 b5))) (by kernel_rfl) ?_ (fun hHeld1 => ?_)
          · (try dsimp only); exact ⟨Kept.drew (by assumption), kept_cell (Kept.refl _).drew (by assumption), kept_cell (Kept.refl _).drew (by assumption), kept_cell (Kept.refl _).drew (by assumption), kept_cell (Kept.refl _).drew (by assumption), kept_cell (Kept.refl _).drew (by assumption), kept_cell (Kept.refl _).drew (by assumption), kept_cell (Kept.refl _).drew (by assumption), kept_cell (Kept.refl _).drew (by assumption), kept_cell (Kept.refl _).drew (by assumption), kept_cell (Kept.refl _).drew (by assumption), kept_cell (Kept.refl _).drew (by assumption), kept_cell (Kept.refl _).drew (by assumption)⟩
          refine tkW 0 rfl ?_; refine tkW 1 rfl ?_; refine tkW 2 rfl ?_; refine tkW 3 rfl ?_
          try simp only [Act.put, List.setIfInBounds_toArray, List.set_cons_zero, List.set_cons_succ, List.getElem_toArray, List.getElem_cons_succ, List.getElem_cons_zero]
          refine tkW 4 rfl ?_; refine tkW 5 rfl ?_; refine tkW 6 rfl ?_; refine tkW 7 rfl ?_
          try simp only [Act.put, List.setIfInBounds_toArray, List.set_cons_zero, List.set_cons_succ, List.getElem_toArray, List.getElem_cons_succ, List.getElem_cons_zero]
          refine tkW 8 rfl ?_; refine tkW 9 rfl ?_
          try simp only [Act.put, List.setIfInBounds_toArray, List.set_cons_zero, List.set_cons_succ, List.getElem_toArray, List.getElem_cons_succ, List.getElem_cons_zero]
          refine tkW 10 rfl ?_; refine tkW 11 rfl ?_; refine tkW 12 rfl ?_; refine tkW 13 rfl ?_
          try simp only [Act.put, List.setIfInBounds_toArray, List.set_cons_zero, List.set_cons_succ, List.getElem_toArray, List.getElem_cons_succ, List.getElem_cons_zero]
          refine tkW 14 rfl ?_; refine tkW 15 rfl ?_; refine tkW 16 rfl ?_; refine tkW 17 rfl ?_
          try simp only [Act.put, List.setIfInBounds_toArray, List.set_cons_zero, List.set_cons_succ, List.getElem_toArray, List.getElem_cons_succ, List.getElem_cons_zero]
          refine tkW 18 rfl ?_
          try simp only [Act.put, List.setIfInBounds_toArray, List.set_cons_zero, List.set_cons_succ, List.getElem_toArray, List.getElem_cons_succ, List.getElem_cons_zero]
          refine tkW 19 rfl ?_
          try simp only [Act.put, List.setIfInBounds_toArray, List.set_cons_zero, List.set_cons_succ, List.getElem_toArray, List.getElem_cons_succ, List.getElem_cons_zero]
          refine wpAnyH_done (by kernel_rfl) ?_ _
          obtain ⟨hk2, x0, x1, x2, x3, x4, x5, y0, y1, y2, y3, y4, y5⟩ := hHeld1
          go_wp2
          rw [rounds_succ]
          go_wp2
          cases d4 : decide (b5 < a2) with
          | true =>
            refine wp_region_held_drew (S := (fun w' => Kept w w' ∧ w'.cell? ⟨q0, 0, none⟩ = some (.int .i64 a0) ∧ w'.cell? ⟨q0, 1, none⟩ = some (.int .i64 a1) ∧ w'.cell? ⟨q0, 2, none⟩ = some (.int .i64 a2) ∧ w'.cell? ⟨q1, 0, none⟩ = some (.int .i64 a3) ∧ w'.cell? ⟨q1, 1, none⟩ = some (.int .i64 a4) ∧ w'.cell? ⟨q1, 2, none⟩ = some (.int .i64 a5) ∧ w'.cell? ⟨q2, 0, none⟩ = some (.int .i64 b0) ∧ w'.cell? ⟨q2, 1, none⟩ = some (.int .i64 b1) ∧ w'.cell? ⟨q2, 2, none⟩ = some (.int .i64 b2) ∧ w'.cell? ⟨q3, 0, none⟩ = some (.int .i64 b3) ∧ w'.cell? ⟨q3, 1, none⟩ = some (.int .i64 b4) ∧ w'.cell? ⟨q3, 2, none⟩ = some (.int .i64 b5))) (by kernel_rfl) ?_ (fun hHeld1 => ?_)
            · (try dsimp only); exact ⟨Kept.drew (by assumption), kept_cell (Kept.refl _).drew (by assumption), kept_cell (Kept.refl _).drew (by assumption), kept_cell (Kept.refl _).drew (by assumption), kept_cell (Kept.refl _).drew (by assumption), kept_cell (Kept.refl _).drew (by assumption), kept_cell (Kept.refl _).drew (by assumption), kept_cell (Kept.refl _).drew (by assumption), kept_cell (Kept.refl _).drew (by assumption), kept_cell (Kept.refl _).drew (by assumption), kept_cell (Kept.refl _).drew (by assumption), kept_cell (Kept.refl _).drew (by assumption), kept_cell (Kept.refl _).drew (by assumption)⟩
            refine tkW 0 rfl ?_; refine tkW 1 rfl ?_; refine tkW 2 rfl ?_; refine tkW 3 rfl ?_
            try simp only [Act.put, List.setIfInBounds_toArray, List.set_cons_zero, List.set_cons_succ, List.getElem_toArray, List.getElem_cons_succ, List.getElem_cons_zero]
            refine tkW 4 rfl ?_; refine tkW 5 rfl ?_; refine tkW 6 rfl ?_; refine tkW 7 rfl ?_
            try simp only [Act.put, List.setIfInBounds_toArray, List.set_cons_zero, List.set_cons_succ, List.getElem_toArray, List.getElem_cons_succ, List.getElem_cons_zero]
            refine tkW 8 rfl ?_; refine tkW 9 rfl ?_
            try simp only [Act.put, List.setIfInBounds_toArray, List.set_cons_zero, List.set_cons_succ, List.getElem_toArray, List.getElem_cons_succ, List.getElem_cons_zero]
            refine skW 10 rfl ?_; refine skW 11 rfl ?_; refine skW 12 rfl ?_; refine skW 13 rfl ?_
            try simp only [Act.put, List.setIfInBounds_toArray, List.set_cons_zero, List.set_cons_succ, List.getElem_toArray, List.getElem_cons_succ, List.getElem_cons_zero]
            refine skW 14 rfl ?_; refine skW 15 rfl ?_; refine skW 16 rfl ?_; refine skW 17 rfl ?_
            try simp only [Act.put, List.setIfInBounds_toArray, List.set_cons_zero, List.set_cons_succ, List.getElem_toArray, List.getElem_cons_succ, List.getElem_cons_zero]
            refine skW 18 rfl ?_
            try simp only [Act.put, List.setIfInBounds_toArray, List.set_cons_zero, List.set_cons_succ, List.getElem_toArray, List.getElem_cons_succ, List.getElem_cons_zero]
            refine tkW 19 rfl ?_
            try simp only [Act.put, List.setIfInBounds_toArray, List.set_cons_zero, List.set_cons_succ, List.getElem_toArray, List.getElem_cons_succ, List.getElem_cons_zero]
            refine wpAnyH_done (by kernel_rfl) ?_ _
            have hk3 := hHeld1.1
            clear hHeld1
            go_wp2
            go_ret
            exact ⟨ret_bool (Eq.symm (by rw [Bool.eq_false_iff, ne_eq, meetB_iff]; simp only [decide_eq_true_eq, decide_eq_false_iff_not] at *; omega)), hk3⟩
          | false =>
            cases d5 : decide (a5 < b2) with
            | true =>
              refine wp_region_held_drew (S := (fun w' => Kept w w' ∧ w'.cell? ⟨q0, 0, none⟩ = some (.int .i64 a0) ∧ w'.cell? ⟨q0, 1, none⟩ = some (.int .i64 a1) ∧ w'.cell? ⟨q0, 2, none⟩ = some (.int .i64 a2) ∧ w'.cell? ⟨q1, 0, none⟩ = some (.int .i64 a3) ∧ w'.cell? ⟨q1, 1, none⟩ = some (.int .i64 a4) ∧ w'.cell? ⟨q1, 2, none⟩ = some (.int .i64 a5) ∧ w'.cell? ⟨q2, 0, none⟩ = some (.int .i64 b0) ∧ w'.cell? ⟨q2, 1, none⟩ = some (.int .i64 b1) ∧ w'.cell? ⟨q2, 2, none⟩ = some (.int .i64 b2) ∧ w'.cell? ⟨q3, 0, none⟩ = some (.int .i64 b3) ∧ w'.cell? ⟨q3, 1, none⟩ = some (.int .i64 b4) ∧ w'.cell? ⟨q3, 2, none⟩ = some (.int .i64 b5))) (by kernel_rfl) ?_ (fun hHeld1 => ?_)
              · (try dsimp only); exact ⟨Kept.drew (by assumption), kept_cell (Kept.refl _).drew (by assumption), kept_cell (Kept.refl _).drew (by assumption), kept_cell (Kept.refl _).drew (by assumption), kept_cell (Kept.refl _).drew (by assumption), kept_cell (Kept.refl _).drew (by assumption), kept_cell (Kept.refl _).drew (by assumption), kept_cell (Kept.refl _).drew (by assumption), kept_cell (Kept.refl _).drew (by assumption), kept_cell (Kept.refl _).drew (by assumption), kept_cell (Kept.refl _).drew (by assumption), kept_cell (Kept.refl _).drew (by assumption), kept_cell (Kept.refl _).drew (by assumption)⟩
              refine tkW 0 rfl ?_; refine tkW 1 rfl ?_; refine tkW 2 rfl ?_; refine tkW 3 rfl ?_
              try simp only [Act.put, List.setIfInBounds_toArray, List.set_cons_zero, List.set_cons_succ, List.getElem_toArray, List.getElem_cons_succ, List.getElem_cons_zero]
              refine tkW 4 rfl ?_; refine tkW 5 rfl ?_; refine tkW 6 rfl ?_; refine tkW 7 rfl ?_
              try simp only [Act.put, List.setIfInBounds_toArray, List.set_cons_zero, List.set_cons_succ, List.getElem_toArray, List.getElem_cons_succ, List.getElem_cons_zero]
              refine tkW 8 rfl ?_; refine tkW 9 rfl ?_
              try simp only [Act.put, List.setIfInBounds_toArray, List.set_cons_zero, List.set_cons_succ, List.getElem_toArray, List.getElem_cons_succ, List.getElem_cons_zero]
              refine tkW 10 rfl ?_; refine tkW 11 rfl ?_; refine tkW 12 rfl ?_; refine tkW 13 rfl ?_
              try simp only [Act.put, List.setIfInBounds_toArray, List.set_cons_zero, List.set_cons_succ, List.getElem_toArray, List.getElem_cons_succ, List.getElem_cons_zero]
              refine tkW 14 rfl ?_; refine tkW 15 rfl ?_; refine tkW 16 rfl ?_; refine tkW 17 rfl ?_
              try simp only [Act.put, List.setIfInBounds_toArray, List.set_cons_zero, List.set_cons_succ, List.getElem_toArray, List.getElem_cons_succ, List.getElem_cons_zero]
              refine tkW 18 rfl ?_
              try simp only [Act.put, List.setIfInBounds_toArray, List.set_cons_zero, List.set_cons_succ, List.getElem_toArray, List.getElem_cons_succ, List.getElem_cons_zero]
              refine tkW 19 rfl ?_
              try simp only [Act.put, List.setIfInBounds_toArray, List.set_cons_zero, List.set_cons_succ, List.getElem_toArray, List.getElem_cons_succ, List.getElem_cons_zero]
              refine wpAnyH_done (by kernel_rfl) ?_ _
              have hk3 := hHeld1.1
              clear hHeld1
              go_wp2
              go_ret
              exact ⟨ret_bool (Eq.symm (by rw [Bool.eq_false_iff, ne_eq, meetB_iff]; simp only [decide_eq_true_eq, decide_eq_false_iff_not] at *; omega)), hk3⟩
            | false =>
              refine wp_region_held_drew (S := (fun w' => Kept w w' ∧ w'.cell? ⟨q0, 0, none⟩ = some (.int .i64 a0) ∧ w'.cell? ⟨q0, 1, none⟩ = some (.int .i64 a1) ∧ w'.cell? ⟨q0, 2, none⟩ = some (.int .i64 a2) ∧ w'.cell? ⟨q1, 0, none⟩ = some (.int .i64 a3) ∧ w'.cell? ⟨q1, 1, none⟩ = some (.int .i64 a4) ∧ w'.cell? ⟨q1, 2, none⟩ = some (.int .i64 a5) ∧ w'.cell? ⟨q2, 0, none⟩ = some (.int .i64 b0) ∧ w'.cell? ⟨q2, 1, none⟩ = some (.int .i64 b1) ∧ w'.cell? ⟨q2, 2, none⟩ = some (.int .i64 b2) ∧ w'.cell? ⟨q3, 0, none⟩ = some (.int .i64 b3) ∧ w'.cell? ⟨q3, 1, none⟩ = some (.int .i64 b4) ∧ w'.cell? ⟨q3, 2, none⟩ = some (.int .i64 b5))) (by kernel_rfl) ?_ (fun hHeld1 => ?_)
              · (try dsimp only); exact ⟨Kept.drew (by assumption), kept_cell (Kept.refl _).drew (by assumption), kept_cell (Kept.refl _).drew (by assumption), kept_cell (Kept.refl _).drew (by assumption), kept_cell (Kept.refl _).drew (by assumption), kept_cell (Kept.refl _).drew (by assumption), kept_cell (Kept.refl _).drew (by assumption), kept_cell (Kept.refl _).drew (by assumption), kept_cell (Kept.refl _).drew (by assumption), kept_cell (Kept.refl _).drew (by assumption), kept_cell (Kept.refl _).drew (by assumption), kept_cell (Kept.refl _).drew (by assumption), kept_cell (Kept.refl _).drew (by assumption)⟩
              refine tkW 0 rfl ?_; refine tkW 1 rfl ?_; refine tkW 2 rfl ?_; refine tkW 3 rfl ?_
              try simp only [Act.put, List.setIfInBounds_toArray, List.set_cons_zero, List.set_cons_succ, List.getElem_toArray, List.getElem_cons_succ, List.getElem_cons_zero]
              refine tkW 4 rfl ?_; refine tkW 5 rfl ?_; refine tkW 6 rfl ?_; refine tkW 7 rfl ?_
              try simp only [Act.put, List.setIfInBounds_toArray, List.set_cons_zero, List.set_cons_succ, List.getElem_toArray, List.getElem_cons_succ, List.getElem_cons_zero]
              refine tkW 8 rfl ?_; refine tkW 9 rfl ?_
              try simp only [Act.put, List.setIfInBounds_toArray, List.set_cons_zero, List.set_cons_succ, List.getElem_toArray, List.getElem_cons_succ, List.getElem_cons_zero]
              refine tkW 10 rfl ?_; refine tkW 11 rfl ?_; refine tkW 12 rfl ?_; refine tkW 13 rfl ?_
              try simp only [Act.put, List.setIfInBounds_toArray, List.set_cons_zero, List.set_cons_succ, List.getElem_toArray, List.getElem_cons_succ, List.getElem_cons_zero]
              refine tkW 14 rfl ?_; refine tkW 15 rfl ?_; refine tkW 16 rfl ?_; refine tkW 17 rfl ?_
              try simp only [Act.put, List.setIfInBounds_toArray, List.set_cons_zero, List.set_cons_succ, List.getElem_toArray, List.getElem_cons_succ, List.getElem_cons_zero]
              refine tkW 18 rfl ?_
              try simp only [Act.put, List.setIfInBounds_toArray, List.set_cons_zero, List.set_cons_succ, List.getElem_toArray, List.getElem_cons_succ, List.getElem_cons_zero]
              refine tkW 19 rfl ?_
              try simp only [Act.put, List.setIfInBounds_toArray, List.set_cons_zero, List.set_cons_succ, List.getElem_toArray, List.getElem_cons_succ, List.getElem_cons_zero]
              refine wpAnyH_done (by kernel_rfl) ?_ _
              obtain ⟨hk3, x0, x1, x2, x3, x4, x5, y0, y1, y2, y3, y4, y5⟩ := hHeld1
              go_wp2
              rw [rounds_succ]
              go_wp2
              go_ret
              exact ⟨ret_bool (Eq.symm (by rw [meetB_iff]; simp only [decide_eq_true_eq, decide_eq_false_iff_not] at *; omega)), hk3⟩
end Go.Proofs.YtdhbcgdlmkkdfaaGreatDoor
