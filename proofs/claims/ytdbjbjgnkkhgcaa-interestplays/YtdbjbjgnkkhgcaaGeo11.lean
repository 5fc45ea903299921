/- gyreref.RightShape answers what chapter 2 says: whatever the shape. -/
import Derived.Test.YtdbjbjgnkkhgcaaGeo10
import Derived.Deep.CutRange
namespace Go.Proofs.Ytdbjbjgnkkhgcaa
open Go.ChangeShapes Go.WideShapes Go.ChangeAt Go.RowKit
set_option linter.unusedSimpArgs false

theorem rightB_iff {k x y z : Int} : rightB k x y z = true ↔ (k = 1 ∧ (1 ≤ x ∧ x ≤ 3276800) ∧ y = 0 ∧ z = 0) ∨ (k = 2 ∧ (1 ≤ x ∧ x ≤ 3276800) ∧ (1 ≤ y ∧ y ≤ 3276800) ∧ 1 ≤ z ∧ z ≤ 3276800) := by
  unfold rightB sz
  by_cases h : k = 1
  · rw [if_pos h]; simp [h]
  · rw [if_neg h]
    by_cases h2 : k = 2
    · rw [if_pos h2]; simp [h2, and_assoc]
    · rw [if_neg h2]; simp [h, h2]
set_option maxHeartbeats 4000000 in
theorem refRight_ball (k x y z : Int) (w : World) (h : Hid (k = 1)) : Calls Try.prog 6 #[.agg #[.int .i64 k, .int .i64 x, .int .i64 y, .int .i64 z]] w fun e w' => e = .returned (.bool (rightB k x y z)) ∧ Kept w w' := by
  have hb : (k == 1) = true := by simp [h.out]
  go_enter Try.func6, Try.ntmps6
  go_wp2
  have HA : G4At w.heap.size (.int .i64 k) (.int .i64 x) (.int .i64 y) (.int .i64 z) (w.alloc (.cells #[.int .i64 k, .int .i64 x, .int .i64 y, .int .i64 z] 29)) := by refine ⟨?_, ?_, ?_, ?_⟩ <;> go_simp
  have hkA : Kept w (w.alloc (.cells #[.int .i64 k, .int .i64 x, .int .i64 y, .int .i64 z] 29)) := (Kept.refl w).alloc _ _
  generalize (w.alloc (.cells #[.int .i64 k, .int .i64 x, .int .i64 y, .int .i64 z] 29)) = wA at HA hkA ⊢
  refine wp_region_held_drew (S := (fun w' => Kept wA w' ∧ w'.cell? ⟨w.heap.size, 0, none⟩ = some (.int .i64 k) ∧ w'.cell? ⟨w.heap.size, 1, none⟩ = some (.int .i64 x) ∧ w'.cell? ⟨w.heap.size, 2, none⟩ = some (.int .i64 y) ∧ w'.cell? ⟨w.heap.size, 3, none⟩ = some (.int .i64 z))) (by kernel_rfl) ?_ (fun hH0 => ?_)
  · (try dsimp only); exact ⟨(Kept.refl _).drew, HA.step (Kept.refl _).drew⟩
  refine tkW 0 rfl ?_; refine tkW 1 rfl ?_; refine tkW 2 rfl ?_; refine tkW 4 rfl ?_
  try simp only [Act.put, List.setIfInBounds_toArray, List.set_cons_zero, List.set_cons_succ, List.getElem_toArray, List.getElem_cons_succ, List.getElem_cons_zero]
  refine tkW 5 rfl ?_; refine tkW 6 rfl ?_; refine tkW 7 rfl ?_; refine tkW 8 rfl ?_
  try simp only [Act.put, List.setIfInBounds_toArray, List.set_cons_zero, List.set_cons_succ, List.getElem_toArray, List.getElem_cons_succ, List.getElem_cons_zero]
  refine tkW 9 rfl ?_
  try simp only [Act.put, List.setIfInBounds_toArray, List.set_cons_zero, List.set_cons_succ, List.getElem_toArray, List.getElem_cons_succ, List.getElem_cons_zero]
  refine wpAnyH_ready (rs := [3, 10]) (by kernel_rfl) (by simp) ?_
  refine AllReadyH.cons rfl (fun K hK => ?_) (AllReadyH.cons rfl (fun K hK => ?_) AllReadyH.nil)
  · rw [if_pos (by rfl)]
    simp only [List.getElem_toArray, List.getElem_cons_succ, List.getElem_cons_zero]
    go_simp
    refine hK.out _ _ ?_ (fun hH1 => ?_)
    · exact ⟨hH0.1.alloc _ _, HA.step (hH0.1.alloc _ _)⟩
    clear hK K hH0
    try simp only [Act.put, List.setIfInBounds_toArray, List.set_cons_zero, List.set_cons_succ, List.getElem_toArray, List.getElem_cons_succ, List.getElem_cons_zero]
    refine tkW 11 rfl ?_
    try simp only [Act.put, List.setIfInBounds_toArray, List.set_cons_zero, List.set_cons_succ, List.getElem_toArray, List.getElem_cons_succ, List.getElem_cons_zero]
    refine wpAnyH_ready (rs := [10]) (by kernel_rfl) (by simp) ?_
    refine AllReadyH.cons rfl (fun K hK => ?_) AllReadyH.nil
    rw [if_pos (by rfl)]
    simp only [List.getElem_toArray, List.getElem_cons_succ, List.getElem_cons_zero]
    go_simp
    refine hK.out _ _ ?_ (fun hH2 => ?_)
    · exact ⟨hH1.1.alloc _ _, HA.step (hH1.1.alloc _ _)⟩
    clear hK K hH1
    try simp only [Act.put, List.setIfInBounds_toArray, List.set_cons_zero, List.set_cons_succ, List.getElem_toArray, List.getElem_cons_succ, List.getElem_cons_zero]
    refine tkW 12 rfl ?_
    try simp only [Act.put, List.setIfInBounds_toArray, List.set_cons_zero, List.set_cons_succ, List.getElem_toArray, List.getElem_cons_succ, List.getElem_cons_zero]
    refine wpAnyH_done (by kernel_rfl) ?_ _
    have hk := hkA.trans hH2.1
    clear HA hkA hH2
    go_wp2
    refine wp_loop_rounds 2 ?_
    rw [rounds_succ]
    by_cases lx : x < 1
    · go_wp2
      go_ret
      exact ⟨ret_bool (Eq.symm (by rw [Bool.eq_false_iff, ne_eq, rightB_iff]; have h1 := h.out; clear h; (try simp only [bne_eq_false_iff_eq, bne_iff_ne, ne_eq] at *); omega)), hk⟩
    · by_cases mx : 3276800 < x
      · go_wp2
        go_ret
        exact ⟨ret_bool (Eq.symm (by rw [Bool.eq_false_iff, ne_eq, rightB_iff]; have h1 := h.out; clear h; (try simp only [bne_eq_false_iff_eq, bne_iff_ne, ne_eq] at *); omega)), hk⟩
      · go_wp2
        rw [rounds_succ]
        go_wp2
        refine wp_loop_rounds 3 ?_
        rw [rounds_succ]
        cases oy : (y != 0) with
        | false =>
          go_wp2
          rw [rounds_succ]
          cases oz : (z != 0) with
          | false =>
            go_wp2
            rw [rounds_succ]
            go_wp2
            go_ret
            exact ⟨ret_bool (Eq.symm (by rw [rightB_iff]; have h1 := h.out; clear h; (try simp only [bne_eq_false_iff_eq, bne_iff_ne, ne_eq] at *); omega)), hk⟩
          | true =>
            go_wp2
            go_ret
            exact ⟨ret_bool (Eq.symm (by rw [Bool.eq_false_iff, ne_eq, rightB_iff]; have h1 := h.out; clear h; (try simp only [bne_eq_false_iff_eq, bne_iff_ne, ne_eq] at *); omega)), hk⟩
        | true =>
          go_wp2
          go_ret
          exact ⟨ret_bool (Eq.symm (by rw [Bool.eq_false_iff, ne_eq, rightB_iff]; have h1 := h.out; clear h; (try simp only [bne_eq_false_iff_eq, bne_iff_ne, ne_eq] at *); omega)), hk⟩
  · rw [if_pos (by rfl)]
    simp only [List.getElem_toArray, List.getElem_cons_succ, List.getElem_cons_zero]
    go_simp
    refine hK.out _ _ ?_ (fun hH1 => ?_)
    · exact ⟨hH0.1.alloc _ _, HA.step (hH0.1.alloc _ _)⟩
    clear hK K hH0
    try simp only [Act.put, List.setIfInBounds_toArray, List.set_cons_zero, List.set_cons_succ, List.getElem_toArray, List.getElem_cons_succ, List.getElem_cons_zero]
    refine wpAnyH_ready (rs := [3]) (by kernel_rfl) (by simp) ?_
    refine AllReadyH.cons rfl (fun K hK => ?_) AllReadyH.nil
    rw [if_pos (by rfl)]
    simp only [List.getElem_toArray, List.getElem_cons_succ, List.getElem_cons_zero]
    go_simp
    refine hK.out _ _ ?_ (fun hH2 => ?_)
    · exact ⟨hH1.1.alloc _ _, HA.step (hH1.1.alloc _ _)⟩
    clear hK K hH1
    try simp only [Act.put, List.setIfInBounds_toArray, List.set_cons_zero, List.set_cons_succ, List.getElem_toArray, List.getElem_cons_succ, List.getElem_cons_zero]
    refine tkW 11 rfl ?_; refine tkW 12 rfl ?_
    try simp only [Act.put, List.setIfInBounds_toArray, List.set_cons_zero, List.set_cons_succ, List.getElem_toArray, List.getElem_cons_succ, List.getElem_cons_zero]
    refine wpAnyH_done (by kernel_rfl) ?_ _
    have hk := hkA.trans hH2.1
    clear HA hkA hH2
    go_wp2
    refine wp_loop_rounds 2 ?_
    rw [rounds_succ]
    by_cases lx : x < 1
    · go_wp2
      go_ret
      exact ⟨ret_bool (Eq.symm (by rw [Bool.eq_false_iff, ne_eq, rightB_iff]; have h1 := h.out; clear h; (try simp only [bne_eq_false_iff_eq, bne_iff_ne, ne_eq] at *); omega)), hk⟩
    · by_cases mx : 3276800 < x
      · go_wp2
        go_ret
        exact ⟨ret_bool (Eq.symm (by rw [Bool.eq_false_iff, ne_eq, rightB_iff]; have h1 := h.out; clear h; (try simp only [bne_eq_false_iff_eq, bne_iff_ne, ne_eq] at *); omega)), hk⟩
      · go_wp2
        rw [rounds_succ]
        go_wp2
        refine wp_loop_rounds 3 ?_
        rw [rounds_succ]
        cases oy : (y != 0) with
        | false =>
          go_wp2
          rw [rounds_succ]
          cases oz : (z != 0) with
          | false =>
            go_wp2
            rw [rounds_succ]
            go_wp2
            go_ret
            exact ⟨ret_bool (Eq.symm (by rw [rightB_iff]; have h1 := h.out; clear h; (try simp only [bne_eq_false_iff_eq, bne_iff_ne, ne_eq] at *); omega)), hk⟩
          | true =>
            go_wp2
            go_ret
            exact ⟨ret_bool (Eq.symm (by rw [Bool.eq_false_iff, ne_eq, rightB_iff]; have h1 := h.out; clear h; (try simp only [bne_eq_false_iff_eq, bne_iff_ne, ne_eq] at *); omega)), hk⟩
        | true =>
          go_wp2
          go_ret
          exact ⟨ret_bool (Eq.symm (by rw [Bool.eq_false_iff, ne_eq, rightB_iff]; have h1 := h.out; clear h; (try simp only [bne_eq_false_iff_eq, bne_iff_ne, ne_eq] at *); omega)), hk⟩
set_option maxHeartbeats 4000000 in
theorem refRight_block (k x y z : Int) (w : World) (h : Hid (k = 2)) : Calls Try.prog 6 #[.agg #[.int .i64 k, .int .i64 x, .int .i64 y, .int .i64 z]] w fun e w' => e = .returned (.bool (rightB k x y z)) ∧ Kept w w' := by
  have hb : (k == 1) = false := by simp [h.out]
  have hb2 : (k == 2) = true := by simp [h.out]
  go_enter Try.func6, Try.ntmps6
  go_wp2_with fail
  refine (refParts_calls _ _ _ _).mono ?_; rintro e w1 ⟨q, rfl, k1, x0, y0, z0⟩
  have hk := ((Kept.refl w).alloc _ _).trans k1
  clear k1
  go_wp2
  refine wp_loop_rounds 4 ?_
  rw [rounds_succ]
  by_cases lx : x < 1
  · go_wp2
    go_ret
    exact ⟨ret_bool (Eq.symm (by rw [Bool.eq_false_iff, ne_eq, rightB_iff]; have h1 := h.out; clear h; (try simp only [bne_eq_false_iff_eq, bne_iff_ne, ne_eq] at *); omega)), hk⟩
  · by_cases mx : 3276800 < x
    · go_wp2
      go_ret
      exact ⟨ret_bool (Eq.symm (by rw [Bool.eq_false_iff, ne_eq, rightB_iff]; have h1 := h.out; clear h; (try simp only [bne_eq_false_iff_eq, bne_iff_ne, ne_eq] at *); omega)), hk⟩
    · go_wp2
      rw [rounds_succ]
      by_cases ly : y < 1
      · go_wp2
        go_ret
        exact ⟨ret_bool (Eq.symm (by rw [Bool.eq_false_iff, ne_eq, rightB_iff]; have h1 := h.out; clear h; (try simp only [bne_eq_false_iff_eq, bne_iff_ne, ne_eq] at *); omega)), hk⟩
      · by_cases my : 3276800 < y
        · go_wp2
          go_ret
          exact ⟨ret_bool (Eq.symm (by rw [Bool.eq_false_iff, ne_eq, rightB_iff]; have h1 := h.out; clear h; (try simp only [bne_eq_false_iff_eq, bne_iff_ne, ne_eq] at *); omega)), hk⟩
        · go_wp2
          rw [rounds_succ]
          by_cases lz : z < 1
          · go_wp2
            go_ret
            exact ⟨ret_bool (Eq.symm (by rw [Bool.eq_false_iff, ne_eq, rightB_iff]; have h1 := h.out; clear h; (try simp only [bne_eq_false_iff_eq, bne_iff_ne, ne_eq] at *); omega)), hk⟩
          · by_cases mz : 3276800 < z
            · go_wp2
              go_ret
              exact ⟨ret_bool (Eq.symm (by rw [Bool.eq_false_iff, ne_eq, rightB_iff]; have h1 := h.out; clear h; (try simp only [bne_eq_false_iff_eq, bne_iff_ne, ne_eq] at *); omega)), hk⟩
            · go_wp2
              rw [rounds_succ]
              go_wp2
              refine wp_loop_rounds 1 ?_
              rw [rounds_succ]
              go_wp2
              go_ret
              exact ⟨ret_bool (Eq.symm (by rw [rightB_iff]; have h1 := h.out; clear h; (try simp only [bne_eq_false_iff_eq, bne_iff_ne, ne_eq] at *); omega)), hk⟩
theorem refRight_calls (k x y z : Int) (w : World) : Calls Try.prog 6 #[.agg #[.int .i64 k, .int .i64 x, .int .i64 y, .int .i64 z]] w fun e w' => e = .returned (.bool (rightB k x y z)) ∧ Kept w w' := by
  by_cases h : k = 1
  · exact refRight_ball k x y z w h
  · by_cases h2 : k = 2
    · exact refRight_block k x y z w h2
    · have hb : (k == 1) = false := by simp [h]
      have hb2 : (k == 2) = false := by simp [h2]
      go_enter Try.func6, Try.ntmps6
      go_wp2
      go_ret
      exact ⟨ret_bool (Eq.symm (by rw [Bool.eq_false_iff, ne_eq, rightB_iff]; omega)), (Kept.refl _).alloc _ _⟩
end Go.Proofs.Ytdbjbjgnkkhgcaa
