/- (solve.meeting).split and part: whatever the meeting. -/
import Derived.Test.YtpegjobehdihbaaSv5
namespace Go.Proofs.Ytpegjobehdihbaa
open Go.ChangeShapes Go.WideShapes Go.ChangeAt Go.RowKit
set_option linter.unusedVariables false
set_option linter.unusedSimpArgs false

theorem put33 {w : World} {p q : Nat} (hne : p ≠ q) {a0 a1 a2 b0 b1 b2 : Value} (c0 : w.cell? ⟨p, 0, none⟩ = some a0) (c1 : w.cell? ⟨p, 1, none⟩ = some a1) (c2 : w.cell? ⟨p, 2, none⟩ = some a2) (d0 : w.cell? ⟨q, 0, none⟩ = some b0) (d1 : w.cell? ⟨q, 1, none⟩ = some b1) (d2 : w.cell? ⟨q, 2, none⟩ = some b2) (v0 v1 v2 u0 u1 u2 : Value) :
    ((((((w.setCell ⟨p, 0, none⟩ v0).setCell ⟨p, 1, none⟩ v1).setCell ⟨p, 2, none⟩ v2).setCell ⟨q, 0, none⟩ u0).setCell ⟨q, 1, none⟩ u1).setCell ⟨q, 2, none⟩ u2).cell? ⟨p, 0, none⟩ = some v0 ∧ ((((((w.setCell ⟨p, 0, none⟩ v0).setCell ⟨p, 1, none⟩ v1).setCell ⟨p, 2, none⟩ v2).setCell ⟨q, 0, none⟩ u0).setCell ⟨q, 1, none⟩ u1).setCell ⟨q, 2, none⟩ u2).cell? ⟨p, 1, none⟩ = some v1 ∧ ((((((w.setCell ⟨p, 0, none⟩ v0).setCell ⟨p, 1, none⟩ v1).setCell ⟨p, 2, none⟩ v2).setCell ⟨q, 0, none⟩ u0).setCell ⟨q, 1, none⟩ u1).setCell ⟨q, 2, none⟩ u2).cell? ⟨p, 2, none⟩ = some v2 ∧ ((((((w.setCell ⟨p, 0, none⟩ v0).setCell ⟨p, 1, none⟩ v1).setCell ⟨p, 2, none⟩ v2).setCell ⟨q, 0, none⟩ u0).setCell ⟨q, 1, none⟩ u1).setCell ⟨q, 2, none⟩ u2).cell? ⟨q, 0, none⟩ = some u0 ∧ ((((((w.setCell ⟨p, 0, none⟩ v0).setCell ⟨p, 1, none⟩ v1).setCell ⟨p, 2, none⟩ v2).setCell ⟨q, 0, none⟩ u0).setCell ⟨q, 1, none⟩ u1).setCell ⟨q, 2, none⟩ u2).cell? ⟨q, 1, none⟩ = some u1 ∧ ((((((w.setCell ⟨p, 0, none⟩ v0).setCell ⟨p, 1, none⟩ v1).setCell ⟨p, 2, none⟩ v2).setCell ⟨q, 0, none⟩ u0).setCell ⟨q, 1, none⟩ u1).setCell ⟨q, 2, none⟩ u2).cell? ⟨q, 2, none⟩ = some u2 := by
  have n1 : q ≠ p := fun e => hne e.symm
  refine ⟨?_, ?_, ?_, ?_, ?_, ?_⟩ <;> go_simp
set_option maxRecDepth 100000 in
set_option maxHeartbeats 2000000 in
theorem split_calls (p0 p1 : Value) (x y al wx wy wz dp a b c j : Int) (w : World) :
    Calls Try.prog 32 #[.agg #[p0, p1, .int .i64 x, .int .i64 y, .int .i64 al, .int .i64 wx, .int .i64 wy, .int .i64 wz, .int .i64 dp], .agg #[.int .i64 a, .int .i64 b, .int .i64 c], .int .i64 j] w fun e w' => e = .returned (.tuple #[.agg #[.int .i64 (mul a (mul j x)), .int .i64 (mul b (mul j x)), .int .i64 (mul c (mul j x))], .agg #[.int .i64 (mul a (mul j y)), .int .i64 (mul b (mul j y)), .int .i64 (mul c (mul j y))]]) ∧ Kept w w' := by
  go_enter Try.func32, Try.ntmps32
  go_upto_region 1 with fail
  have HA : Hid (∃ wA, wA = ((((w.alloc (.cells #[p0, p1, .int .i64 x, .int .i64 y, .int .i64 al, .int .i64 wx, .int .i64 wy, .int .i64 wz, .int .i64 dp] 49)).alloc (.cells #[.int .i64 a, .int .i64 b, .int .i64 c] 26)).alloc (.cells #[.int .i64 0, .int .i64 0, .int .i64 0] 26)).alloc (.cells #[.int .i64 0, .int .i64 0, .int .i64 0] 26)) ∧ Kept w wA ∧ (wA.cell? ⟨w.heap.size, 2, none⟩ = some (.int .i64 x) ∧ wA.cell? ⟨w.heap.size, 3, none⟩ = some (.int .i64 y) ∧ wA.cell? ⟨w.heap.size + 1, 0, none⟩ = some (.int .i64 a) ∧ wA.cell? ⟨w.heap.size + 1, 1, none⟩ = some (.int .i64 b) ∧ wA.cell? ⟨w.heap.size + 1, 2, none⟩ = some (.int .i64 c)) ∧ (wA.cell? ⟨w.heap.size + 1 + 1, 0, none⟩ = some (.int .i64 0) ∧ wA.cell? ⟨w.heap.size + 1 + 1, 1, none⟩ = some (.int .i64 0) ∧ wA.cell? ⟨w.heap.size + 1 + 1, 2, none⟩ = some (.int .i64 0) ∧ wA.cell? ⟨w.heap.size + 1 + 1 + 1, 0, none⟩ = some (.int .i64 0) ∧ wA.cell? ⟨w.heap.size + 1 + 1 + 1, 1, none⟩ = some (.int .i64 0) ∧ wA.cell? ⟨w.heap.size + 1 + 1 + 1, 2, none⟩ = some (.int .i64 0)) ∧ (∀ i, wA.frozen? ⟨w.heap.size + 1 + 1, i, none⟩ = false) ∧ (∀ i, wA.frozen? ⟨w.heap.size + 1 + 1 + 1, i, none⟩ = false)) := by
    refine ⟨_, rfl, (((((Kept.refl w).alloc _ _).alloc _ _).alloc _ _).alloc _ _), ⟨?_, ?_, ?_, ?_, ?_⟩, ⟨?_, ?_, ?_, ?_, ?_, ?_⟩, ?_, ?_⟩
    all_goals (try intro i)
    all_goals go_simp
  obtain ⟨wA, hwA, hkA, hcs, hr, hf1, hf2⟩ := HA.out
  simp only [← hwA]
  clear hwA HA
  have HA : Hid (Kept w wA) := hkA
  have HF : Hid ((wA.cell? ⟨w.heap.size + 1 + 1, 0, none⟩ = some (.int .i64 0) ∧ wA.cell? ⟨w.heap.size + 1 + 1, 1, none⟩ = some (.int .i64 0) ∧ wA.cell? ⟨w.heap.size + 1 + 1, 2, none⟩ = some (.int .i64 0) ∧ wA.cell? ⟨w.heap.size + 1 + 1 + 1, 0, none⟩ = some (.int .i64 0) ∧ wA.cell? ⟨w.heap.size + 1 + 1 + 1, 1, none⟩ = some (.int .i64 0) ∧ wA.cell? ⟨w.heap.size + 1 + 1 + 1, 2, none⟩ = some (.int .i64 0)) ∧ (∀ i, wA.frozen? ⟨w.heap.size + 1 + 1, i, none⟩ = false) ∧ (∀ i, wA.frozen? ⟨w.heap.size + 1 + 1 + 1, i, none⟩ = false)) := ⟨hr, hf1, hf2⟩
  have HN : Hid (w.heap.size ≤ w.heap.size + 1 + 1 ∧ w.heap.size ≤ w.heap.size + 1 + 1 + 1 ∧ w.heap.size + 1 + 1 ≠ w.heap.size + 1 + 1 + 1 ∧ w.heap.size ∉ [w.heap.size + 1 + 1, w.heap.size + 1 + 1 + 1] ∧ w.heap.size + 1 ∉ [w.heap.size + 1 + 1, w.heap.size + 1 + 1 + 1]) := by
    refine ⟨by omega, by omega, by omega, ?_, ?_⟩ <;> (simp only [List.mem_cons, List.not_mem_nil, or_false]; omega)
  clear hkA hr hf1 hf2
  revert HN HF hcs
  generalize w.heap.size + 1 + 1 + 1 = r2
  generalize w.heap.size + 1 + 1 = r1
  generalize w.heap.size + 1 = kw
  generalize hkx : w.heap.size = kx
  intro hcs HF HN
  have HX : Hid (w.heap.size = kx) := hkx
  clear hkx
  have HK : Hid (∀ w', Only [r1, r2] wA w' → Only [r1, r2] wA w' ∧ w'.cell? ⟨kx, 2, none⟩ = some (.int .i64 x) ∧ w'.cell? ⟨kx, 3, none⟩ = some (.int .i64 y) ∧ w'.cell? ⟨kw, 0, none⟩ = some (.int .i64 a) ∧ w'.cell? ⟨kw, 1, none⟩ = some (.int .i64 b) ∧ w'.cell? ⟨kw, 2, none⟩ = some (.int .i64 c)) := fun w' o => ⟨o, cell_only o hcs.1 HN.out.2.2.2.1, cell_only o hcs.2.1 HN.out.2.2.2.1, cell_only o hcs.2.2.1 HN.out.2.2.2.2, cell_only o hcs.2.2.2.1 HN.out.2.2.2.2, cell_only o hcs.2.2.2.2 HN.out.2.2.2.2⟩
  clear hcs
  refine wp_region_held_drew (S := (fun w' => Only [r1, r2] wA w' ∧ w'.cell? ⟨kx, 2, none⟩ = some (.int .i64 x) ∧ w'.cell? ⟨kx, 3, none⟩ = some (.int .i64 y) ∧ w'.cell? ⟨kw, 0, none⟩ = some (.int .i64 a) ∧ w'.cell? ⟨kw, 1, none⟩ = some (.int .i64 b) ∧ w'.cell? ⟨kw, 2, none⟩ = some (.int .i64 c))) (by kernel_rfl) ?_ (fun hHeld1 => ?_)
  · (try dsimp only); exact HK.out _ (Only.refl _ _).drew
  refine tkW 0 rfl ?_; refine tkW 1 rfl ?_; refine tkW 2 rfl ?_; refine tkW 3 rfl ?_
  try simp only [Act.put, List.setIfInBounds_toArray, List.set_cons_zero, List.set_cons_succ, List.getElem_toArray, List.getElem_cons_succ, List.getElem_cons_zero]
  refine tkW 6 rfl ?_; refine tkW 7 rfl ?_; refine tkW 8 rfl ?_; refine tkW 9 rfl ?_
  try simp only [Act.put, List.setIfInBounds_toArray, List.set_cons_zero, List.set_cons_succ, List.getElem_toArray, List.getElem_cons_succ, List.getElem_cons_zero]
  refine wpAnyH_ready (rs := [4]) (by kernel_rfl) (by simp) ?_
  refine AllReadyH.cons rfl (fun K hK => ?_) AllReadyH.nil
  first | (with_reducible refine iteYes ?hcx ?htx; case hcx => kernel_rfl) | rw [if_pos (by rfl)]
  simp only [List.getElem_toArray, List.getElem_cons_succ, List.getElem_cons_zero]
  go_simp
  (go_at_call 25; refine (mul_calls _ _ _).mono ?_; rintro e w1 ⟨rfl, k1⟩; have K1 : Hid (Kept wA w1) := (Kept.refl wA).drew.trans k1; clear k1)
  try go_wp2_with fail
  refine hK.out _ _ ?_ (fun hHeld2 => ?_)
  · (try dsimp only); exact HK.out _ (Only.of_kept K1.out)
  clear hK K hHeld1
  try simp only [Act.put, List.setIfInBounds_toArray, List.set_cons_zero, List.set_cons_succ, List.getElem_toArray, List.getElem_cons_succ, List.getElem_cons_zero]
  refine wpAnyH_ready (rs := [5]) (by kernel_rfl) (by simp) ?_
  refine AllReadyH.cons rfl (fun K hK => ?_) AllReadyH.nil
  first | (with_reducible refine iteYes ?hcx ?htx; case hcx => kernel_rfl) | rw [if_pos (by rfl)]
  simp only [List.getElem_toArray, List.getElem_cons_succ, List.getElem_cons_zero]
  go_simp
  (go_at_call 28; refine (times_calls _ _ _ _ _).mono ?_; rintro e w2 ⟨rfl, k2⟩; have K2 : Hid (Kept wA w2) := K1.out.trans k2; clear k2)
  try go_wp2_with fail
  refine hK.out _ _ ?_ (fun hHeld3 => ?_)
  · (try dsimp only); exact HK.out _ (Only.of_kept K2.out)
  clear hK K hHeld2
  try simp only [Act.put, List.setIfInBounds_toArray, List.set_cons_zero, List.set_cons_succ, List.getElem_toArray, List.getElem_cons_succ, List.getElem_cons_zero]
  refine wpAnyH_ready (rs := [10]) (by kernel_rfl) (by simp) ?_
  refine AllReadyH.cons rfl (fun K hK => ?_) AllReadyH.nil
  first | (with_reducible refine iteYes ?hcx ?htx; case hcx => kernel_rfl) | rw [if_pos (by rfl)]
  simp only [List.getElem_toArray, List.getElem_cons_succ, List.getElem_cons_zero]
  go_simp
  (go_at_call 25; refine (mul_calls _ _ _).mono ?_; rintro e w3 ⟨rfl, k3⟩; have K3 : Hid (Kept wA w3) := K2.out.trans k3; clear k3)
  try go_wp2_with fail
  refine hK.out _ _ ?_ (fun hHeld4 => ?_)
  · (try dsimp only); exact HK.out _ (Only.of_kept K3.out)
  clear hK K hHeld3
  try simp only [Act.put, List.setIfInBounds_toArray, List.set_cons_zero, List.set_cons_succ, List.getElem_toArray, List.getElem_cons_succ, List.getElem_cons_zero]
  refine wpAnyH_ready (rs := [11]) (by kernel_rfl) (by simp) ?_
  refine AllReadyH.cons rfl (fun K hK => ?_) AllReadyH.nil
  first | (with_reducible refine iteYes ?hcx ?htx; case hcx => kernel_rfl) | rw [if_pos (by rfl)]
  simp only [List.getElem_toArray, List.getElem_cons_succ, List.getElem_cons_zero]
  go_simp
  (go_at_call 28; refine (times_calls _ _ _ _ _).mono ?_; rintro e w4 ⟨rfl, k4⟩; have K4 : Hid (Kept wA w4) := K3.out.trans k4; clear k4)
  try go_wp2_with fail
  refine hK.out _ _ ?_ (fun hHeld5 => ?_)
  · (try dsimp only); exact HK.out _ (Only.of_kept K4.out)
  clear hK K hHeld4
  try simp only [Act.put, List.setIfInBounds_toArray, List.set_cons_zero, List.set_cons_succ, List.getElem_toArray, List.getElem_cons_succ, List.getElem_cons_zero]
  have c0 := kept_cell K4.out HF.out.1.1
  have c1 := kept_cell K4.out HF.out.1.2.1
  have c2 := kept_cell K4.out HF.out.1.2.2.1
  have d0 := kept_cell K4.out HF.out.1.2.2.2.1
  have d1 := kept_cell K4.out HF.out.1.2.2.2.2.1
  have d2 := kept_cell K4.out HF.out.1.2.2.2.2.2
  have f0 := kept_frozen K4.out (HF.out.2.1 0)
  have f1 := kept_frozen K4.out (HF.out.2.1 1)
  have f2 := kept_frozen K4.out (HF.out.2.1 2)
  have g0 := kept_frozen K4.out (HF.out.2.2 0)
  have g1 := kept_frozen K4.out (HF.out.2.2 1)
  have g2 := kept_frozen K4.out (HF.out.2.2 2)
  have hne := HN.out.2.2.1
  have hne' : r2 ≠ r1 := fun e => hne e.symm
  refine wpAnyH_ready (rs := [12]) (by kernel_rfl) (by simp) ?_
  refine AllReadyH.cons rfl (fun K hK => ?_) AllReadyH.nil
  first | (with_reducible refine iteYes ?hcx ?htx; case hcx => kernel_rfl) | rw [if_pos (by rfl)]
  simp only [List.getElem_toArray, List.getElem_cons_succ, List.getElem_cons_zero]
  go_simp
  refine hK.out _ _ ?_ (fun hHeld6 => ?_)
  · (try dsimp only); exact HK.out _ ((((Only.of_kept K4.out).setCell (p := ⟨r1, 0, none⟩) (Or.inl (by simp)) _).setCell (p := ⟨r1, 1, none⟩) (Or.inl (by simp)) _).setCell (p := ⟨r1, 2, none⟩) (Or.inl (by simp)) _)
  clear hK K
  try simp only [Act.put, List.setIfInBounds_toArray, List.set_cons_zero, List.set_cons_succ, List.getElem_toArray, List.getElem_cons_succ, List.getElem_cons_zero]
  refine wpAnyH_ready (rs := [13]) (by kernel_rfl) (by simp) ?_
  refine AllReadyH.cons rfl (fun K hK => ?_) AllReadyH.nil
  first | (with_reducible refine iteYes ?hcx ?htx; case hcx => kernel_rfl) | rw [if_pos (by rfl)]
  simp only [List.getElem_toArray, List.getElem_cons_succ, List.getElem_cons_zero]
  go_simp
  refine hK.out _ _ ?_ (fun hHeld7 => ?_)
  · (try dsimp only); exact HK.out _ (((((((Only.of_kept K4.out).setCell (p := ⟨r1, 0, none⟩) (Or.inl (by simp)) _).setCell (p := ⟨r1, 1, none⟩) (Or.inl (by simp)) _).setCell (p := ⟨r1, 2, none⟩) (Or.inl (by simp)) _).setCell (p := ⟨r2, 0, none⟩) (Or.inl (by simp)) _).setCell (p := ⟨r2, 1, none⟩) (Or.inl (by simp)) _).setCell (p := ⟨r2, 2, none⟩) (Or.inl (by simp)) _)
  clear hK K
  try simp only [Act.put, List.setIfInBounds_toArray, List.set_cons_zero, List.set_cons_succ, List.getElem_toArray, List.getElem_cons_succ, List.getElem_cons_zero]
  refine wpAnyH_done (by kernel_rfl) ?_ _
  clear hHeld7 hHeld6
  obtain ⟨e0, e1, e2, e3, e4, e5⟩ := put33 hne c0 c1 c2 d0 d1 d2 (.int .i64 (mul a (mul j x))) (.int .i64 (mul b (mul j x))) (.int .i64 (mul c (mul j x))) (.int .i64 (mul a (mul j y))) (.int .i64 (mul b (mul j y))) (.int .i64 (mul c (mul j y)))
  have hfin : Kept w ((((((w4.setCell ⟨r1, 0, none⟩ (.int .i64 (mul a (mul j x)))).setCell ⟨r1, 1, none⟩ (.int .i64 (mul b (mul j x)))).setCell ⟨r1, 2, none⟩ (.int .i64 (mul c (mul j x)))).setCell ⟨r2, 0, none⟩ (.int .i64 (mul a (mul j y)))).setCell ⟨r2, 1, none⟩ (.int .i64 (mul b (mul j y)))).setCell ⟨r2, 2, none⟩ (.int .i64 (mul c (mul j y)))) := by
    have hx := HX.out
    have h1 := HN.out.1
    have h2 := HN.out.2.1
    have k := HA.out.trans K4.out
    exact (((((k.setCell (p := ⟨r1, 0, none⟩) (by show w.heap.size ≤ r1; omega) _).setCell (p := ⟨r1, 1, none⟩) (by show w.heap.size ≤ r1; omega) _).setCell (p := ⟨r1, 2, none⟩) (by show w.heap.size ≤ r1; omega) _).setCell (p := ⟨r2, 0, none⟩) (by show w.heap.size ≤ r2; omega) _).setCell (p := ⟨r2, 1, none⟩) (by show w.heap.size ≤ r2; omega) _).setCell (p := ⟨r2, 2, none⟩) (by show w.heap.size ≤ r2; omega) _
  go_wp2_with fail
  exact bodyPost_ret (v := .tuple #[.agg #[.int .i64 (mul a (mul j x)), .int .i64 (mul b (mul j x)), .int .i64 (mul c (mul j x))], .agg #[.int .i64 (mul a (mul j y)), .int .i64 (mul b (mul j y)), .int .i64 (mul c (mul j y))]]) (by simp [results, Try.results32, go_sem, e0, e1, e2, e3, e4, e5]) rfl ⟨rfl, hfin⟩
end Go.Proofs.Ytpegjobehdihbaa
