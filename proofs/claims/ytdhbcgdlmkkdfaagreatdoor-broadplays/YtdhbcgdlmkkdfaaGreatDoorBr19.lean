/- cmp.Compare, cmp.Or of two numbers, and the closure by which Pairs sorts: pairs by the first, then the second: whatever they are. -/
import Derived.Test.YtdhbcgdlmkkdfaaGreatDoorBr18
import Derived.Test.YtdhbcgdlmkkdfaaGreatDoorCmp
import Derived.Sort.Grow
namespace Go.Proofs.YtdhbcgdlmkkdfaaGreatDoor
open Go.ChangeShapes Go.WideShapes Go.ChangeAt Go.RowKit Go.Sort
set_option linter.unusedVariables false
set_option linter.unusedSimpArgs false

def orI (x y : Int) : Int := if x = 0 then y else x
theorem or_calls (b : Nat) (x y : Int) (w : World) (c0 : w.cell? ⟨b, 0, none⟩ = some (.int .i64 x)) (c1 : w.cell? ⟨b, 1, none⟩ = some (.int .i64 y)) : Calls Tryz.prog 26 #[.slice (some ⟨b, 0, none⟩) 2 2] w fun e w' => e = .returned (.int .i64 (orI x y)) ∧ w' = w := by
  unfold orI
  by_cases h : x = 0
  · rw [if_pos h]
    have t1 : (x != 0) = false := by simp [h]
    clear h
    by_cases h2 : y = 0
    · have t2 : (y != 0) = false := by simp [h2]
      have HY : Hid (y = 0) := h2
      clear h2
      go_enter Tryz.func26, Tryz.ntmps26
      go_wp2
      refine wp_loop_rounds 3 ?_
      rw [rounds_succ]
      go_wp2
      rw [rounds_succ]
      go_wp2
      rw [rounds_succ]
      go_wp2
      go_ret
      exact ⟨by rw [HY.out]; rfl, rfl⟩
    · have t2 : (y != 0) = true := by simp [h2]
      go_enter Tryz.func26, Tryz.ntmps26
      go_wp2
      refine wp_loop_rounds 3 ?_
      rw [rounds_succ]
      go_wp2
      rw [rounds_succ]
      go_wp2
      go_ret
      exact ⟨rfl, rfl⟩
  · rw [if_neg h]
    have t1 : (x != 0) = true := by simp [h]
    go_enter Tryz.func26, Tryz.ntmps26
    go_wp2
    refine wp_loop_rounds 3 ?_
    rw [rounds_succ]
    go_wp2
    go_ret
    exact ⟨rfl, rfl⟩
def cmp2 (x y : Int × Int) : Int := orI (cmpI x.1 y.1) (cmpI x.2 y.2)
/-- A world that has drawn, and has new blocks behind. -/
def Grew (w w' : World) : Prop := ∃ q os, w' = grow (w.drewN q) os
theorem Grew.refl (w : World) : Grew w w := ⟨0, #[], by rw [grow_empty]; rfl⟩
theorem Grew.alloc {w w' : World} (h : Grew w w') (o : Obj) : Grew w (w'.alloc o) := by
  obtain ⟨q, os, rfl⟩ := h
  exact ⟨q, os ++ #[o], by rw [alloc_eq_grow, grow_grow]⟩
theorem Grew.drew {w w' : World} (h : Grew w w') : Grew w w'.drew := by
  obtain ⟨q, os, rfl⟩ := h
  exact ⟨q + 1, os, rfl⟩
theorem Grew.only {w w' : World} (h : Grew w w') : Only [] w w' := by
  obtain ⟨q, os, rfl⟩ := h
  refine ⟨rfl, rfl, rfl, by simp [grow, World.drewN], fun b hb _ => ?_⟩
  show (w.heap ++ os)[b]? = _
  rw [Array.getElem?_append_left hb]
def CL (k : Nat) (x y : Int × Int) (w w' : World) : Prop := Grew w w' ∧ w'.cell? ⟨k, 0, none⟩ = some (.int .i64 (x.1)) ∧ w'.cell? ⟨k, 1, none⟩ = some (.int .i64 (x.2)) ∧ w'.cell? ⟨k + 1, 0, none⟩ = some (.int .i64 (y.1)) ∧ w'.cell? ⟨k + 1, 1, none⟩ = some (.int .i64 (y.2))
theorem CL.alloc {k : Nat} {x y : Int × Int} {w w' : World} (h : CL k x y w w') (o : Obj) : CL k x y w (w'.alloc o) :=
  ⟨h.1.alloc o, later h.2.1 o, later h.2.2.1 o, later h.2.2.2.1 o, later h.2.2.2.2 o⟩
theorem new_row0 (w : World) (x y : Value) (t : TypeId) : (w.alloc (.cells #[x, y] t)).drew.cell? ⟨w.heap.size, 0, none⟩ = some x := by go_simp
theorem new_row1 (w : World) (x y : Value) (t : TypeId) : (w.alloc (.cells #[x, y] t)).drew.cell? ⟨w.heap.size, 1, none⟩ = some y := by go_simp
set_option maxHeartbeats 1000000 in
theorem closure_calls (x y : Int × Int) (w : World) : Calls Tryz.prog 25 #[.agg #[.int .i64 (x.1), .int .i64 (x.2)], .agg #[.int .i64 (y.1), .int .i64 (y.2)]] w fun e w' => e = .returned (.int .i64 (cmp2 x y)) ∧ ∃ q os', w' = grow (w.drewN q) os' := by
  go_enter Tryz.func25, Tryz.ntmps25
  go_wp2_with fail
  have H0 : Hid (CL w.heap.size x y w ((w.alloc (.cells #[.int .i64 (x.1), .int .i64 (x.2)] 50)).alloc (.cells #[.int .i64 (y.1), .int .i64 (y.2)] 50))) := ⟨((Grew.refl w).alloc _).alloc _, by go_simp, by go_simp, by go_simp, by go_simp⟩
  generalize ((w.alloc (.cells #[.int .i64 (x.1), .int .i64 (x.2)] 50)).alloc (.cells #[.int .i64 (y.1), .int .i64 (y.2)] 50)) = w0 at H0 ⊢
  generalize w.heap.size = k at H0 ⊢
  refine wp_region_held_drew (S := (fun w' => Grew w w' ∧ w'.cell? ⟨k, 0, none⟩ = some (.int .i64 (x.1)) ∧ w'.cell? ⟨k, 1, none⟩ = some (.int .i64 (x.2)) ∧ w'.cell? ⟨k + 1, 0, none⟩ = some (.int .i64 (y.1)) ∧ w'.cell? ⟨k + 1, 1, none⟩ = some (.int .i64 (y.2)))) (by kernel_rfl) ?_ (fun hHeld1 => ?_)
  · (try dsimp only); exact ⟨H0.out.1.drew, H0.out.2⟩
  refine tkW 0 rfl ?_; refine tkW 1 rfl ?_; refine tkW 2 rfl ?_; refine tkW 3 rfl ?_
  try simp only [Act.put, List.setIfInBounds_toArray, List.set_cons_zero, List.set_cons_succ, List.getElem_toArray, List.getElem_cons_succ, List.getElem_cons_zero]
  refine tkW 5 rfl ?_; refine tkW 6 rfl ?_; refine tkW 7 rfl ?_; refine tkW 8 rfl ?_
  try simp only [Act.put, List.setIfInBounds_toArray, List.set_cons_zero, List.set_cons_succ, List.getElem_toArray, List.getElem_cons_succ, List.getElem_cons_zero]
  refine wpAnyH_ready (rs := [4]) (by kernel_rfl) (by simp) ?_
  refine AllReadyH.cons rfl (fun K hK => ?_) AllReadyH.nil
  first | (with_reducible refine iteYes ?hcx ?htx; case hcx => kernel_rfl) | rw [if_pos (by rfl)]
  simp only [List.getElem_toArray, List.getElem_cons_succ, List.getElem_cons_zero]
  go_simp
  (go_at_call 27; refine (compare_calls _ _ _).mono ?_; rintro e w1 ⟨rfl, rfl⟩)
  try go_wp2_with fail
  refine hK.out _ _ ?_ (fun hHeld2 => ?_)
  · (try dsimp only); exact hHeld1
  clear hK K hHeld1
  try simp only [Act.put, List.setIfInBounds_toArray, List.set_cons_zero, List.set_cons_succ, List.getElem_toArray, List.getElem_cons_succ, List.getElem_cons_zero]
  refine wpAnyH_ready (rs := [9]) (by kernel_rfl) (by simp) ?_
  refine AllReadyH.cons rfl (fun K hK => ?_) AllReadyH.nil
  first | (with_reducible refine iteYes ?hcx ?htx; case hcx => kernel_rfl) | rw [if_pos (by rfl)]
  simp only [List.getElem_toArray, List.getElem_cons_succ, List.getElem_cons_zero]
  go_simp
  (go_at_call 27; refine (compare_calls _ _ _).mono ?_; rintro e w2 ⟨rfl, rfl⟩)
  try go_wp2_with fail
  refine hK.out _ _ ?_ (fun hHeld3 => ?_)
  · (try dsimp only); exact hHeld2
  clear hK K hHeld2
  try simp only [Act.put, List.setIfInBounds_toArray, List.set_cons_zero, List.set_cons_succ, List.getElem_toArray, List.getElem_cons_succ, List.getElem_cons_zero]
  refine wpAnyH_ready (rs := [10]) (by kernel_rfl) (by simp) ?_
  refine AllReadyH.cons rfl (fun K hK => ?_) AllReadyH.nil
  first | (with_reducible refine iteYes ?hcx ?htx; case hcx => kernel_rfl) | rw [if_pos (by rfl)]
  simp only [List.getElem_toArray, List.getElem_cons_succ, List.getElem_cons_zero]
  go_simp
  refine hK.out _ _ ?_ (fun hHeld4 => ?_)
  · (try dsimp only); exact CL.alloc hHeld3 _
  clear hK K
  try simp only [Act.put, List.setIfInBounds_toArray, List.set_cons_zero, List.set_cons_succ, List.getElem_toArray, List.getElem_cons_succ, List.getElem_cons_zero]
  refine wpAnyH_ready (rs := [11]) (by kernel_rfl) (by simp) ?_
  refine AllReadyH.cons rfl (fun K hK => ?_) AllReadyH.nil
  first | (with_reducible refine iteYes ?hcx ?htx; case hcx => kernel_rfl) | rw [if_pos (by rfl)]
  simp only [List.getElem_toArray, List.getElem_cons_succ, List.getElem_cons_zero]
  go_simp
  (go_at_call 26; refine (or_calls w0.heap.size (cmpI x.1 y.1) (cmpI x.2 y.2) _ (by exact new_row0 ..) (by exact new_row1 ..)).mono ?_; rintro e w4 ⟨rfl, rfl⟩)
  try go_wp2_with fail
  refine hK.out _ _ ?_ (fun hHeld5 => ?_)
  · (try dsimp only); exact hHeld4
  clear hK K hHeld4
  try simp only [Act.put, List.setIfInBounds_toArray, List.set_cons_zero, List.set_cons_succ, List.getElem_toArray, List.getElem_cons_succ, List.getElem_cons_zero]
  refine tkW 12 rfl ?_
  try simp only [Act.put, List.setIfInBounds_toArray, List.set_cons_zero, List.set_cons_succ, List.getElem_toArray, List.getElem_cons_succ, List.getElem_cons_zero]
  refine wpAnyH_done (by kernel_rfl) ?_ _
  have HG : Hid (Grew w _) := hHeld5.1
  clear hHeld5
  go_wp2_with fail
  go_ret
  exact ⟨rfl, HG.out⟩
end Go.Proofs.YtdhbcgdlmkkdfaaGreatDoor
