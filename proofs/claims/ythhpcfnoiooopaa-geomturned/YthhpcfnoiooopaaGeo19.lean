/- GeomTurned's own walk: whatever the shapes and the places, it returns true. -/
import Derived.Test.YthhpcfnoiooopaaGeo18
namespace Go.Proofs.Ythhpcfnoiooopaa
open Go.ChangeShapes Go.WideShapes Go.ChangeAt Go.RowKit
set_option linter.unusedSimpArgs false

theorem touch_fact : touchT 1 65536 0 0 0 0 0 1 65536 0 0 65536 0 0 = ⟨65536, 0, 0, 65536, true⟩ := by
  have hl : long 65536 0 0 = 65536 := by
    unfold long
    rw [show dot 65536 0 0 65536 0 0 = 65536 by decide]
    exact root_eq (by decide) (by decide) (by decide) (by decide)
  rw [touchT_bb rfl rfl, show add 65536 65536 = 131072 by decide, show sub 65536 0 = 65536 by decide, show sub 0 0 = 0 by decide, reachT_yes (by rw [hl]; decide)]
  unfold unitT
  rw [hl, show unitPart 65536 0 65536 = 65536 by decide, show unitPart 65536 65536 0 = 0 by decide, show unitPart 65536 0 0 = 0 by decide, show sub 131072 65536 = 65536 by decide]
theorem touched_calls (w : World) : Calls Try.prog 54 #[] w fun e w' => e = .returned (.bool true) ∧ Kept w w' := by
  go_enter Try.func54, Try.ntmps54
  go_wp2_with fail
  refine (gTouches_calls _ _ _ _ _ _ _ _ _ _ _ _ _ _ _).mono ?_; rintro e w1 ⟨rfl, k1⟩
  rw [touch_fact]
  dsimp only
  go_wp2
  go_ret
  exact ⟨rfl, (((Kept.refl w).alloc _ _).trans k1).alloc _ _⟩
theorem ShAAt.past {b0 b1 b2 b3 : Nat} {v0 v1 v2 v3 v4 v5 v6 v7 v8 v9 v10 v11 v12 v13 : Value} {w : World} (h : ShAAt b0 b1 b2 b3 v0 v1 v2 v3 v4 v5 v6 v7 v8 v9 v10 v11 v12 v13 w) (n13 : b1 ≠ b3) : ∀ r0 r1 r2 : Value, (((w.setCell ⟨b1, 0, none⟩ r0).setCell ⟨b1, 1, none⟩ r1).setCell ⟨b1, 2, none⟩ r2).cell? ⟨b3, 0, none⟩ = some v11 ∧ (((w.setCell ⟨b1, 0, none⟩ r0).setCell ⟨b1, 1, none⟩ r1).setCell ⟨b1, 2, none⟩ r2).cell? ⟨b3, 1, none⟩ = some v12 ∧ (((w.setCell ⟨b1, 0, none⟩ r0).setCell ⟨b1, 1, none⟩ r1).setCell ⟨b1, 2, none⟩ r2).cell? ⟨b3, 2, none⟩ = some v13 := by
  have m : ∀ i j : Nat, (⟨b1, i, none⟩ : Addr) ≠ ⟨b3, j, none⟩ := fun i j e => n13 (by injection e)
  obtain ⟨_h0, _h1, _h2, _h3, _h4, _h5, _h6, _h7, _h8, _h9, _h10, h11, h12, h13⟩ := h
  intro r0 r1 r2
  exact ⟨(World.cell?_setCell_other _ _ _ _ (m 2 _)).trans ((World.cell?_setCell_other _ _ _ _ (m 1 _)).trans ((World.cell?_setCell_other _ _ _ _ (m 0 _)).trans (h11))), (World.cell?_setCell_other _ _ _ _ (m 2 _)).trans ((World.cell?_setCell_other _ _ _ _ (m 1 _)).trans ((World.cell?_setCell_other _ _ _ _ (m 0 _)).trans (h12))), (World.cell?_setCell_other _ _ _ _ (m 2 _)).trans ((World.cell?_setCell_other _ _ _ _ (m 1 _)).trans ((World.cell?_setCell_other _ _ _ _ (m 0 _)).trans (h13)))⟩
theorem ShAAt.put2 {b0 b1 b2 b3 : Nat} {v0 v1 v2 v3 v4 v5 v6 v7 v8 v9 v10 v11 v12 v13 : Value} {w : World} (h : ShAAt b0 b1 b2 b3 v0 v1 v2 v3 v4 v5 v6 v7 v8 v9 v10 v11 v12 v13 w) (n1 : b1 ≠ b0) (n2 : b1 ≠ b2) (n3 : b3 ≠ b0) (n4 : b3 ≠ b2) (n5 : b3 ≠ b1) (r0 r1 r2 s0 s1 s2 : Value) :
    ShAAt b0 b1 b2 b3 v0 v1 v2 v3 r0 r1 r2 v7 v8 v9 v10 s0 s1 s2 ((((((w.setCell ⟨b1, 0, none⟩ r0).setCell ⟨b1, 1, none⟩ r1).setCell ⟨b1, 2, none⟩ r2).setCell ⟨b3, 0, none⟩ s0).setCell ⟨b3, 1, none⟩ s1).setCell ⟨b3, 2, none⟩ s2) := by
  have n10 : ∀ i j : Nat, (⟨b1, i, none⟩ : Addr) ≠ ⟨b0, j, none⟩ := fun i j e => n1 (by injection e)
  have n12 : ∀ i j : Nat, (⟨b1, i, none⟩ : Addr) ≠ ⟨b2, j, none⟩ := fun i j e => n2 (by injection e)
  have n30 : ∀ i j : Nat, (⟨b3, i, none⟩ : Addr) ≠ ⟨b0, j, none⟩ := fun i j e => n3 (by injection e)
  have n32 : ∀ i j : Nat, (⟨b3, i, none⟩ : Addr) ≠ ⟨b2, j, none⟩ := fun i j e => n4 (by injection e)
  have n31 : ∀ i j : Nat, (⟨b3, i, none⟩ : Addr) ≠ ⟨b1, j, none⟩ := fun i j e => n5 (by injection e)
  obtain ⟨y0, y1, y2⟩ := h.past (fun e => n5 e.symm) r0 r1 r2
  obtain ⟨z0, z1, z2⟩ := set3_of (v0 := s0) (v1 := s1) (v2 := s2) y0 y1 y2
  obtain ⟨h0, h1, h2, h3, h4, h5, h6, h7, h8, h9, h10, _h11, _h12, _h13⟩ := h
  obtain ⟨x0, x1, x2⟩ := set3_of (v0 := r0) (v1 := r1) (v2 := r2) h4 h5 h6
  exact ⟨(World.cell?_setCell_other _ _ _ _ (n30 2 _)).trans ((World.cell?_setCell_other _ _ _ _ (n30 1 _)).trans ((World.cell?_setCell_other _ _ _ _ (n30 0 _)).trans ((World.cell?_setCell_other _ _ _ _ (n10 2 _)).trans ((World.cell?_setCell_other _ _ _ _ (n10 1 _)).trans ((World.cell?_setCell_other _ _ _ _ (n10 0 _)).trans (h0)))))), (World.cell?_setCell_other _ _ _ _ (n30 2 _)).trans ((World.cell?_setCell_other _ _ _ _ (n30 1 _)).trans ((World.cell?_setCell_other _ _ _ _ (n30 0 _)).trans ((World.cell?_setCell_other _ _ _ _ (n10 2 _)).trans ((World.cell?_setCell_other _ _ _ _ (n10 1 _)).trans ((World.cell?_setCell_other _ _ _ _ (n10 0 _)).trans (h1)))))), (World.cell?_setCell_other _ _ _ _ (n30 2 _)).trans ((World.cell?_setCell_other _ _ _ _ (n30 1 _)).trans ((World.cell?_setCell_other _ _ _ _ (n30 0 _)).trans ((World.cell?_setCell_other _ _ _ _ (n10 2 _)).trans ((World.cell?_setCell_other _ _ _ _ (n10 1 _)).trans ((World.cell?_setCell_other _ _ _ _ (n10 0 _)).trans (h2)))))), (World.cell?_setCell_other _ _ _ _ (n30 2 _)).trans ((World.cell?_setCell_other _ _ _ _ (n30 1 _)).trans ((World.cell?_setCell_other _ _ _ _ (n30 0 _)).trans ((World.cell?_setCell_other _ _ _ _ (n10 2 _)).trans ((World.cell?_setCell_other _ _ _ _ (n10 1 _)).trans ((World.cell?_setCell_other _ _ _ _ (n10 0 _)).trans (h3)))))), (World.cell?_setCell_other _ _ _ _ (n31 2 _)).trans ((World.cell?_setCell_other _ _ _ _ (n31 1 _)).trans ((World.cell?_setCell_other _ _ _ _ (n31 0 _)).trans (x0))), (World.cell?_setCell_other _ _ _ _ (n31 2 _)).trans ((World.cell?_setCell_other _ _ _ _ (n31 1 _)).trans ((World.cell?_setCell_other _ _ _ _ (n31 0 _)).trans (x1))), (World.cell?_setCell_other _ _ _ _ (n31 2 _)).trans ((World.cell?_setCell_other _ _ _ _ (n31 1 _)).trans ((World.cell?_setCell_other _ _ _ _ (n31 0 _)).trans (x2))), (World.cell?_setCell_other _ _ _ _ (n32 2 _)).trans ((World.cell?_setCell_other _ _ _ _ (n32 1 _)).trans ((World.cell?_setCell_other _ _ _ _ (n32 0 _)).trans ((World.cell?_setCell_other _ _ _ _ (n12 2 _)).trans ((World.cell?_setCell_other _ _ _ _ (n12 1 _)).trans ((World.cell?_setCell_other _ _ _ _ (n12 0 _)).trans (h7)))))), (World.cell?_setCell_other _ _ _ _ (n32 2 _)).trans ((World.cell?_setCell_other _ _ _ _ (n32 1 _)).trans ((World.cell?_setCell_other _ _ _ _ (n32 0 _)).trans ((World.cell?_setCell_other _ _ _ _ (n12 2 _)).trans ((World.cell?_setCell_other _ _ _ _ (n12 1 _)).trans ((World.cell?_setCell_other _ _ _ _ (n12 0 _)).trans (h8)))))), (World.cell?_setCell_other _ _ _ _ (n32 2 _)).trans ((World.cell?_setCell_other _ _ _ _ (n32 1 _)).trans ((World.cell?_setCell_other _ _ _ _ (n32 0 _)).trans ((World.cell?_setCell_other _ _ _ _ (n12 2 _)).trans ((World.cell?_setCell_other _ _ _ _ (n12 1 _)).trans ((World.cell?_setCell_other _ _ _ _ (n12 0 _)).trans (h9)))))), (World.cell?_setCell_other _ _ _ _ (n32 2 _)).trans ((World.cell?_setCell_other _ _ _ _ (n32 1 _)).trans ((World.cell?_setCell_other _ _ _ _ (n32 0 _)).trans ((World.cell?_setCell_other _ _ _ _ (n12 2 _)).trans ((World.cell?_setCell_other _ _ _ _ (n12 1 _)).trans ((World.cell?_setCell_other _ _ _ _ (n12 0 _)).trans (h10)))))), z0, z1, z2⟩
set_option maxHeartbeats 8000000 in
theorem geomTurned_calls (ka xa ya za p0 p1 p2 kb xb yb zb q0 q1 q2 : Int) (w : World) : Calls Try.prog 9 #[.agg #[.int .i64 ka, .int .i64 xa, .int .i64 ya, .int .i64 za], .agg #[.int .i64 p0, .int .i64 p1, .int .i64 p2], .agg #[.int .i64 kb, .int .i64 xb, .int .i64 yb, .int .i64 zb], .agg #[.int .i64 q0, .int .i64 q1, .int .i64 q2]] w fun e w' => e = .returned (.bool true) ∧ Kept w w' := by
  go_enter Try.func9, Try.ntmps9
  go_wp2_with fail
  refine (touched_calls _).mono ?_; rintro e wA ⟨rfl, k0⟩
  have HA : Aside (ShAAt (w.heap.size) (w.heap.size + 1) (w.heap.size + 1 + 1) (w.heap.size + 1 + 1 + 1) (.int .i64 ka) (.int .i64 xa) (.int .i64 ya) (.int .i64 za) (.int .i64 p0) (.int .i64 p1) (.int .i64 p2) (.int .i64 kb) (.int .i64 xb) (.int .i64 yb) (.int .i64 zb) (.int .i64 q0) (.int .i64 q1) (.int .i64 q2) wA) := ShAAt.step k0 (by refine ⟨?_, ?_, ?_, ?_, ?_, ?_, ?_, ?_, ?_, ?_, ?_, ?_, ?_, ?_⟩ <;> go_simp)
  have RP : Aside (∀ i, wA.frozen? ⟨w.heap.size + 1, i, none⟩ = false) := fun i => kept_frozen k0 (by go_simp)
  have RQ : Aside (∀ i, wA.frozen? ⟨w.heap.size + 1 + 1 + 1, i, none⟩ = false) := fun i => kept_frozen k0 (by go_simp)
  have hkA : Kept w wA := ((((Kept.refl w).alloc _ _).alloc _ _).alloc _ _).alloc _ _ |>.trans k0
  clear k0
  go_wp2
  go_cut [] from 16 (fun wc => Kept w wc ∧ ShAAt (w.heap.size) (w.heap.size + 1) (w.heap.size + 1 + 1) (w.heap.size + 1 + 1 + 1) (.int .i64 ka) (.int .i64 xa) (.int .i64 ya) (.int .i64 za) (.int .i64 (cl (bound 65536000) p0)) (.int .i64 (cl (bound 65536000) p1)) (.int .i64 (cl (bound 65536000) p2)) (.int .i64 kb) (.int .i64 xb) (.int .i64 yb) (.int .i64 zb) (.int .i64 (cl (bound 65536000) q0)) (.int .i64 (cl (bound 65536000) q1)) (.int .i64 (cl (bound 65536000) q2)) wc)
  case first =>
    obtain ⟨_, _, _, _, a0, a1, a2, _, _, _, _, b0, b1, b2⟩ := HA.out
    refine wp_region_held_drew (S := fun w' => Kept w w') (by kernel_rfl) ?_ (fun hH0 => ?_)
    · (try dsimp only); exact hkA.drew
    refine wpAnyH_ready (rs := [0, 2]) (by kernel_rfl) (by simp) ?_
    refine AllReadyH.cons rfl (fun K hK => ?_) (AllReadyH.cons rfl (fun K hK => ?_) AllReadyH.nil)
    · rw [if_pos (by rfl)]
      simp only [List.getElem_toArray, List.getElem_cons_succ, List.getElem_cons_zero]
      go_simp
      refine hK.out _ _ ?_ (fun hH1 => ?_)
      · exact hH0
      clear hK K hH0
      try simp only [Act.put, List.setIfInBounds_toArray, List.set_cons_zero, List.set_cons_succ, List.getElem_toArray, List.getElem_cons_succ, List.getElem_cons_zero]
      refine wpAnyH_ready (rs := [1, 2]) (by kernel_rfl) (by simp) ?_
      refine AllReadyH.cons rfl (fun K hK => ?_) (AllReadyH.cons rfl (fun K hK => ?_) AllReadyH.nil)
      · rw [if_pos (by rfl)]
        simp only [List.getElem_toArray, List.getElem_cons_succ, List.getElem_cons_zero]
        go_simp
        (go_at_call 34; refine (clamp_calls _ _ _ _ _ (by omega)).mono ?_; rintro e wx2 ⟨rfl, kx2⟩)
        try go_wp2_with fail
        refine hK.out _ _ ?_ (fun hH2 => ?_)
        · exact hH1.trans kx2
        clear hK K hH1
        try simp only [Act.put, List.setIfInBounds_toArray, List.set_cons_zero, List.set_cons_succ, List.getElem_toArray, List.getElem_cons_succ, List.getElem_cons_zero]
        obtain ⟨_, _, _, _, a0, a1, a2, _, _, _, _, b0, b1, b2⟩ := HA.out.step (((Kept.refl _).drew).trans kx2)
        refine wpAnyH_ready (rs := [2]) (by kernel_rfl) (by simp) ?_
        refine AllReadyH.cons rfl (fun K hK => ?_) AllReadyH.nil
        rw [if_pos (by rfl)]
        simp only [List.getElem_toArray, List.getElem_cons_succ, List.getElem_cons_zero]
        go_simp
        refine hK.out _ _ ?_ (fun hH3 => ?_)
        · exact hH2
        clear hK K hH2
        try simp only [Act.put, List.setIfInBounds_toArray, List.set_cons_zero, List.set_cons_succ, List.getElem_toArray, List.getElem_cons_succ, List.getElem_cons_zero]
        refine wpAnyH_ready (rs := [3]) (by kernel_rfl) (by simp) ?_
        refine AllReadyH.cons rfl (fun K hK => ?_) AllReadyH.nil
        rw [if_pos (by rfl)]
        simp only [List.getElem_toArray, List.getElem_cons_succ, List.getElem_cons_zero]
        go_simp
        (go_at_call 34; refine (clamp_calls _ _ _ _ _ (by omega)).mono ?_; rintro e wx4 ⟨rfl, kx4⟩)
        try go_wp2_with fail
        refine hK.out _ _ ?_ (fun hH4 => ?_)
        · exact hH3.trans kx4
        clear hK K hH3
        try simp only [Act.put, List.setIfInBounds_toArray, List.set_cons_zero, List.set_cons_succ, List.getElem_toArray, List.getElem_cons_succ, List.getElem_cons_zero]
        have HW := HA.out.step ((((Kept.refl _).drew).trans kx2).trans kx4)
        have HW0 : Aside (ShAAt (w.heap.size) (w.heap.size + 1) (w.heap.size + 1 + 1) (w.heap.size + 1 + 1 + 1) (.int .i64 ka) (.int .i64 xa) (.int .i64 ya) (.int .i64 za) (.int .i64 p0) (.int .i64 p1) (.int .i64 p2) (.int .i64 kb) (.int .i64 xb) (.int .i64 yb) (.int .i64 zb) (.int .i64 q0) (.int .i64 q1) (.int .i64 q2) wx4) := HW
        obtain ⟨_, _, _, _, c0, c1, c2, _, _, _, _, _, _, _⟩ := HW
        have f0 := kept_frozen ((((Kept.refl _).drew).trans kx2).trans kx4) (RP.out 0)
        have f1 := kept_frozen ((((Kept.refl _).drew).trans kx2).trans kx4) (RP.out 1)
        have f2 := kept_frozen ((((Kept.refl _).drew).trans kx2).trans kx4) (RP.out 2)
        have hY := HW0.out.past (by omega)
        have g0 := kept_frozen ((((Kept.refl _).drew).trans kx2).trans kx4) (RQ.out 0)
        have g1 := kept_frozen ((((Kept.refl _).drew).trans kx2).trans kx4) (RQ.out 1)
        have g2 := kept_frozen ((((Kept.refl _).drew).trans kx2).trans kx4) (RQ.out 2)
        refine wpAnyH_ready (rs := [4]) (by kernel_rfl) (by simp) ?_
        refine AllReadyH.cons rfl (fun K hK => ?_) AllReadyH.nil
        rw [if_pos (by rfl)]
        simp only [List.getElem_toArray, List.getElem_cons_succ, List.getElem_cons_zero]
        go_simp
        refine hK.out _ _ ?_ (fun hS1 => ?_)
        · exact kept_set3 hH4 (by omega) _ _ _
        clear hK K
        try simp only [Act.put, List.setIfInBounds_toArray, List.set_cons_zero, List.set_cons_succ, List.getElem_toArray, List.getElem_cons_succ, List.getElem_cons_zero]
        refine wpAnyH_ready (rs := [5]) (by kernel_rfl) (by simp) ?_
        refine AllReadyH.cons rfl (fun K hK => ?_) AllReadyH.nil
        rw [if_pos (by rfl)]
        simp only [List.getElem_toArray, List.getElem_cons_succ, List.getElem_cons_zero]
        go_simp
        refine hK.out _ _ ?_ (fun hS2 => ?_)
        · exact kept_set3 hS1 (by omega) _ _ _
        clear hK K
        try simp only [Act.put, List.setIfInBounds_toArray, List.set_cons_zero, List.set_cons_succ, List.getElem_toArray, List.getElem_cons_succ, List.getElem_cons_zero]
        refine wpAnyH_done (by kernel_rfl) ?_ _
        go_wp2_with fail
        go_meet
        case rel => exact ⟨hS2, HW0.out.put2 (by omega) (by omega) (by omega) (by omega) (by omega) _ _ _ _ _ _⟩
      · rw [if_pos (by rfl)]
        simp only [List.getElem_toArray, List.getElem_cons_succ, List.getElem_cons_zero]
        go_simp
        refine hK.out _ _ ?_ (fun hH5 => ?_)
        · exact hH1
        clear hK K hH1
        try simp only [Act.put, List.setIfInBounds_toArray, List.set_cons_zero, List.set_cons_succ, List.getElem_toArray, List.getElem_cons_succ, List.getElem_cons_zero]
        refine wpAnyH_ready (rs := [1]) (by kernel_rfl) (by simp) ?_
        refine AllReadyH.cons rfl (fun K hK => ?_) AllReadyH.nil
        rw [if_pos (by rfl)]
        simp only [List.getElem_toArray, List.getElem_cons_succ, List.getElem_cons_zero]
        go_simp
        (go_at_call 34; refine (clamp_calls _ _ _ _ _ (by omega)).mono ?_; rintro e wx6 ⟨rfl, kx6⟩)
        try go_wp2_with fail
        refine hK.out _ _ ?_ (fun hH6 => ?_)
        · exact hH5.trans kx6
        clear hK K hH5
        try simp only [Act.put, List.setIfInBounds_toArray, List.set_cons_zero, List.set_cons_succ, List.getElem_toArray, List.getElem_cons_succ, List.getElem_cons_zero]
        obtain ⟨_, _, _, _, a0, a1, a2, _, _, _, _, b0, b1, b2⟩ := HA.out.step (((Kept.refl _).drew).trans kx6)
        refine wpAnyH_ready (rs := [3]) (by kernel_rfl) (by simp) ?_
        refine AllReadyH.cons rfl (fun K hK => ?_) AllReadyH.nil
        rw [if_pos (by rfl)]
        simp only [List.getElem_toArray, List.getElem_cons_succ, List.getElem_cons_zero]
        go_simp
        (go_at_call 34; refine (clamp_calls _ _ _ _ _ (by omega)).mono ?_; rintro e wx7 ⟨rfl, kx7⟩)
        try go_wp2_with fail
        refine hK.out _ _ ?_ (fun hH7 => ?_)
        · exact hH6.trans kx7
        clear hK K hH6
        try simp only [Act.put, List.setIfInBounds_toArray, List.set_cons_zero, List.set_cons_succ, List.getElem_toArray, List.getElem_cons_succ, List.getElem_cons_zero]
        have HW := HA.out.step ((((Kept.refl _).drew).trans kx6).trans kx7)
        have HW0 : Aside (ShAAt (w.heap.size) (w.heap.size + 1) (w.heap.size + 1 + 1) (w.heap.size + 1 + 1 + 1) (.int .i64 ka) (.int .i64 xa) (.int .i64 ya) (.int .i64 za) (.int .i64 p0) (.int .i64 p1) (.int .i64 p2) (.int .i64 kb) (.int .i64 xb) (.int .i64 yb) (.int .i64 zb) (.int .i64 q0) (.int .i64 q1) (.int .i64 q2) wx7) := HW
        obtain ⟨_, _, _, _, c0, c1, c2, _, _, _, _, _, _, _⟩ := HW
        have f0 := kept_frozen ((((Kept.refl _).drew).trans kx6).trans kx7) (RP.out 0)
        have f1 := kept_frozen ((((Kept.refl _).drew).trans kx6).trans kx7) (RP.out 1)
        have f2 := kept_frozen ((((Kept.refl _).drew).trans kx6).trans kx7) (RP.out 2)
        have hY := HW0.out.past (by omega)
        have g0 := kept_frozen ((((Kept.refl _).drew).trans kx6).trans kx7) (RQ.out 0)
        have g1 := kept_frozen ((((Kept.refl _).drew).trans kx6).trans kx7) (RQ.out 1)
        have g2 := kept_frozen ((((Kept.refl _).drew).trans kx6).trans kx7) (RQ.out 2)
        refine wpAnyH_ready (rs := [4]) (by kernel_rfl) (by simp) ?_
        refine AllReadyH.cons rfl (fun K hK => ?_) AllReadyH.nil
        rw [if_pos (by rfl)]
        simp only [List.getElem_toArray, List.getElem_cons_succ, List.getElem_cons_zero]
        go_simp
        refine hK.out _ _ ?_ (fun hS1 => ?_)
        · exact kept_set3 hH7 (by omega) _ _ _
        clear hK K
        try simp only [Act.put, List.setIfInBounds_toArray, List.set_cons_zero, List.set_cons_succ, List.getElem_toArray, List.getElem_cons_succ, List.getElem_cons_zero]
        refine wpAnyH_ready (rs := [5]) (by kernel_rfl) (by simp) ?_
        refine AllReadyH.cons rfl (fun K hK => ?_) AllReadyH.nil
        rw [if_pos (by rfl)]
        simp only [List.getElem_toArray, List.getElem_cons_succ, List.getElem_cons_zero]
        go_simp
        refine hK.out _ _ ?_ (fun hS2 => ?_)
        · exact kept_set3 hS1 (by omega) _ _ _
        clear hK K
        try simp only [Act.put, List.setIfInBounds_toArray, List.set_cons_zero, List.set_cons_succ, List.getElem_toArray, List.getElem_cons_succ, List.getElem_cons_zero]
        refine wpAnyH_done (by kernel_rfl) ?_ _
        go_wp2_with fail
        go_meet
        case rel => exact ⟨hS2, HW0.out.put2 (by omega) (by omega) (by omega) (by omega) (by omega) _ _ _ _ _ _⟩
    · rw [if_pos (by rfl)]
      simp only [List.getElem_toArray, List.getElem_cons_succ, List.getElem_cons_zero]
      go_simp
      refine hK.out _ _ ?_ (fun hH8 => ?_)
      · exact hH0
      clear hK K hH0
      try simp only [Act.put, List.setIfInBounds_toArray, List.set_cons_zero, List.set_cons_succ, List.getElem_toArray, List.getElem_cons_succ, List.getElem_cons_zero]
      refine wpAnyH_ready (rs := [0]) (by kernel_rfl) (by simp) ?_
      refine AllReadyH.cons rfl (fun K hK => ?_) AllReadyH.nil
      rw [if_pos (by rfl)]
      simp only [List.getElem_toArray, List.getElem_cons_succ, List.getElem_cons_zero]
      go_simp
      refine hK.out _ _ ?_ (fun hH9 => ?_)
      · exact hH8
      clear hK K hH8
      try simp only [Act.put, List.setIfInBounds_toArray, List.set_cons_zero, List.set_cons_succ, List.getElem_toArray, List.getElem_cons_succ, List.getElem_cons_zero]
      refine wpAnyH_ready (rs := [1]) (by kernel_rfl) (by simp) ?_
      refine AllReadyH.cons rfl (fun K hK => ?_) AllReadyH.nil
      rw [if_pos (by rfl)]
      simp only [List.getElem_toArray, List.getElem_cons_succ, List.getElem_cons_zero]
      go_simp
      (go_at_call 34; refine (clamp_calls _ _ _ _ _ (by omega)).mono ?_; rintro e wx10 ⟨rfl, kx10⟩)
      try go_wp2_with fail
      refine hK.out _ _ ?_ (fun hH10 => ?_)
      · exact hH9.trans kx10
      clear hK K hH9
      try simp only [Act.put, List.setIfInBounds_toArray, List.set_cons_zero, List.set_cons_succ, List.getElem_toArray, List.getElem_cons_succ, List.getElem_cons_zero]
      obtain ⟨_, _, _, _, a0, a1, a2, _, _, _, _, b0, b1, b2⟩ := HA.out.step (((Kept.refl _).drew).trans kx10)
      refine wpAnyH_ready (rs := [3]) (by kernel_rfl) (by simp) ?_
      refine AllReadyH.cons rfl (fun K hK => ?_) AllReadyH.nil
      rw [if_pos (by rfl)]
      simp only [List.getElem_toArray, List.getElem_cons_succ, List.getElem_cons_zero]
      go_simp
      (go_at_call 34; refine (clamp_calls _ _ _ _ _ (by omega)).mono ?_; rintro e wx11 ⟨rfl, kx11⟩)
      try go_wp2_with fail
      refine hK.out _ _ ?_ (fun hH11 => ?_)
      · exact hH10.trans kx11
      clear hK K hH10
      try simp only [Act.put, List.setIfInBounds_toArray, List.set_cons_zero, List.set_cons_succ, List.getElem_toArray, List.getElem_cons_succ, List.getElem_cons_zero]
      have HW := HA.out.step ((((Kept.refl _).drew).trans kx10).trans kx11)
      have HW0 : Aside (ShAAt (w.heap.size) (w.heap.size + 1) (w.heap.size + 1 + 1) (w.heap.size + 1 + 1 + 1) (.int .i64 ka) (.int .i64 xa) (.int .i64 ya) (.int .i64 za) (.int .i64 p0) (.int .i64 p1) (.int .i64 p2) (.int .i64 kb) (.int .i64 xb) (.int .i64 yb) (.int .i64 zb) (.int .i64 q0) (.int .i64 q1) (.int .i64 q2) wx11) := HW
      obtain ⟨_, _, _, _, c0, c1, c2, _, _, _, _, _, _, _⟩ := HW
      have f0 := kept_frozen ((((Kept.refl _).drew).trans kx10).trans kx11) (RP.out 0)
      have f1 := kept_frozen ((((Kept.refl _).drew).trans kx10).trans kx11) (RP.out 1)
      have f2 := kept_frozen ((((Kept.refl _).drew).trans kx10).trans kx11) (RP.out 2)
      have hY := HW0.out.past (by omega)
      have g0 := kept_frozen ((((Kept.refl _).drew).trans kx10).trans kx11) (RQ.out 0)
      have g1 := kept_frozen ((((Kept.refl _).drew).trans kx10).trans kx11) (RQ.out 1)
      have g2 := kept_frozen ((((Kept.refl _).drew).trans kx10).trans kx11) (RQ.out 2)
      refine wpAnyH_ready (rs := [4]) (by kernel_rfl) (by simp) ?_
      refine AllReadyH.cons rfl (fun K hK => ?_) AllReadyH.nil
      rw [if_pos (by rfl)]
      simp only [List.getElem_toArray, List.getElem_cons_succ, List.getElem_cons_zero]
      go_simp
      refine hK.out _ _ ?_ (fun hS1 => ?_)
      · exact kept_set3 hH11 (by omega) _ _ _
      clear hK K
      try simp only [Act.put, List.setIfInBounds_toArray, List.set_cons_zero, List.set_cons_succ, List.getElem_toArray, List.getElem_cons_succ, List.getElem_cons_zero]
      refine wpAnyH_ready (rs := [5]) (by kernel_rfl) (by simp) ?_
      refine AllReadyH.cons rfl (fun K hK => ?_) AllReadyH.nil
      rw [if_pos (by rfl)]
      simp only [List.getElem_toArray, List.getElem_cons_succ, List.getElem_cons_zero]
      go_simp
      refine hK.out _ _ ?_ (fun hS2 => ?_)
      · exact kept_set3 hS1 (by omega) _ _ _
      clear hK K
      try simp only [Act.put, List.setIfInBounds_toArray, List.set_cons_zero, List.set_cons_succ, List.getElem_toArray, List.getElem_cons_succ, List.getElem_cons_zero]
      refine wpAnyH_done (by kernel_rfl) ?_ _
      go_wp2_with fail
      go_meet
      case rel => exact ⟨hS2, HW0.out.put2 (by omega) (by omega) (by omega) (by omega) (by omega) _ _ _ _ _ _⟩
  case rest =>
    obtain ⟨kc, HB⟩ := hcut
    have HB0 : Aside (ShAAt (w.heap.size) (w.heap.size + 1) (w.heap.size + 1 + 1) (w.heap.size + 1 + 1 + 1) (.int .i64 ka) (.int .i64 xa) (.int .i64 ya) (.int .i64 za) (.int .i64 (cl (bound 65536000) p0)) (.int .i64 (cl (bound 65536000) p1)) (.int .i64 (cl (bound 65536000) p2)) (.int .i64 kb) (.int .i64 xb) (.int .i64 yb) (.int .i64 zb) (.int .i64 (cl (bound 65536000) q0)) (.int .i64 (cl (bound 65536000) q1)) (.int .i64 (cl (bound 65536000) q2)) wc) := HB
    clear HA RP RQ hkA
    obtain ⟨t0, t1, t2, t3, t4, t5, t6, t7, t8, t9, t10, t11, t12, t13⟩ := HB
    cases ra : rightB ka xa ya za with
    | false =>
      go_wp2_with fail
      refine (gRight_calls _ _ _ _ _).mono ?_; rintro e w1 ⟨rfl, k1⟩
      go_wp2
      go_ret
      exact ⟨rfl, kc.trans k1⟩
    | true =>
      cases rb : rightB kb xb yb zb with
      | false =>
        go_wp2_with fail
        refine (gRight_calls _ _ _ _ _).mono ?_; rintro e w1 ⟨rfl, k1⟩
        obtain ⟨t0, t1, t2, t3, t4, t5, t6, t7, t8, t9, t10, t11, t12, t13⟩ := HB0.out.step (k1)
        go_wp2_with fail
        refine (gRight_calls _ _ _ _ _).mono ?_; rintro e w2 ⟨rfl, k2⟩
        go_wp2
        go_ret
        exact ⟨rfl, (kc.trans k1).trans k2⟩
      | true =>
        have hs := touch_same ka xa ya za (cl (bound 65536000) p0) (cl (bound 65536000) p1) (cl (bound 65536000) p2) kb xb yb zb (cl (bound 65536000) q0) (cl (bound 65536000) q1) (cl (bound 65536000) q2)
        have hl := touchT_low kb xb yb zb (cl (bound 65536000) q0) (cl (bound 65536000) q1) (cl (bound 65536000) q2) ka xa ya za (cl (bound 65536000) p0) (cl (bound 65536000) p1) (cl (bound 65536000) p2)
        have ht := touch_turned ka xa ya za (cl (bound 65536000) p0) (cl (bound 65536000) p1) (cl (bound 65536000) p2) kb xb yb zb (cl (bound 65536000) q0) (cl (bound 65536000) q1) (cl (bound 65536000) q2) ra rb
        go_wp2_with fail
        refine (gRight_calls _ _ _ _ _).mono ?_; rintro e w1 ⟨rfl, k1⟩
        obtain ⟨t0, t1, t2, t3, t4, t5, t6, t7, t8, t9, t10, t11, t12, t13⟩ := HB0.out.step (k1)
        go_wp2_with fail
        refine (gRight_calls _ _ _ _ _).mono ?_; rintro e w2 ⟨rfl, k2⟩
        obtain ⟨t0, t1, t2, t3, t4, t5, t6, t7, t8, t9, t10, t11, t12, t13⟩ := HB0.out.step (k1.trans k2)
        go_wp2_with fail
        refine (gTouches_calls _ _ _ _ _ _ _ _ _ _ _ _ _ _ _).mono ?_; rintro e w3 ⟨rfl, k3⟩
        clear t0 t1 t2 t3 t4 t5 t6 t7 t8 t9 t10 t11 t12 t13
        have HC := HB0.out.step ((k1.trans k2).trans k3)
        obtain ⟨t0, t1, t2, t3, t4, t5, t6, t7, t8, t9, t10, t11, t12, t13⟩ := HC
        have l0 := later t0
        have l1 := later t1
        have l2 := later t2
        have l3 := later t3
        have l4 := later t4
        have l5 := later t5
        have l6 := later t6
        have l7 := later t7
        have l8 := later t8
        have l9 := later t9
        have l10 := later t10
        have l11 := later t11
        have l12 := later t12
        have l13 := later t13
        clear t0 t1 t2 t3 t4 t5 t6 t7 t8 t9 t10 t11 t12 t13
        have hk3 : Kept w w3 := ((kc.trans k1).trans k2).trans k3
        have HC0 : Aside (ShAAt (w.heap.size) (w.heap.size + 1) (w.heap.size + 1 + 1) (w.heap.size + 1 + 1 + 1) (.int .i64 ka) (.int .i64 xa) (.int .i64 ya) (.int .i64 za) (.int .i64 (cl (bound 65536000) p0)) (.int .i64 (cl (bound 65536000) p1)) (.int .i64 (cl (bound 65536000) p2)) (.int .i64 kb) (.int .i64 xb) (.int .i64 yb) (.int .i64 zb) (.int .i64 (cl (bound 65536000) q0)) (.int .i64 (cl (bound 65536000) q1)) (.int .i64 (cl (bound 65536000) q2)) w3) := HB0.out.step ((k1.trans k2).trans k3)
        generalize hTT : touchT ka xa ya za (cl (bound 65536000) p0) (cl (bound 65536000) p1) (cl (bound 65536000) p2) kb xb yb zb (cl (bound 65536000) q0) (cl (bound 65536000) q1) (cl (bound 65536000) q2) = t at hs ht ⊢
        go_wp2_with fail
        refine (gTouches_calls _ _ _ _ _ _ _ _ _ _ _ _ _ _ _).mono ?_; rintro e w4 ⟨rfl, k4⟩
        clear l0 l1 l2 l3 l4 l5 l6 l7 l8 l9 l10 l11 l12 l13
        generalize hUU : touchT kb xb yb zb (cl (bound 65536000) q0) (cl (bound 65536000) q1) (cl (bound 65536000) q2) ka xa ya za (cl (bound 65536000) p0) (cl (bound 65536000) p1) (cl (bound 65536000) p2) = u at hs ht hl ⊢
        clear hTT hUU k1 k2 k3
        have d0 : w4.cell? ⟨w3.heap.size, 0, none⟩ = some (.int .i64 (t.x)) := kept_cell k4 (by go_simp)
        have d1 : w4.cell? ⟨w3.heap.size, 1, none⟩ = some (.int .i64 (t.y)) := kept_cell k4 (by go_simp)
        have d2 : w4.cell? ⟨w3.heap.size, 2, none⟩ = some (.int .i64 (t.z)) := kept_cell k4 (by go_simp)
        have dl0 := later d0
        have dl1 := later d1
        have dl2 := later d2
        obtain ⟨t0, _, _, _, _, _, _, t7, _, _, _, _, _, _⟩ := HC0.out.step (((Kept.refl w3).alloc _ _).trans k4)
        have m0 := later t0
        have m7 := later t7
        have hk4 : Kept w w4 := (hk3.alloc _ _).trans k4
        have q1 : (t.ok != u.ok) = false := by rw [hs.2]; simp
        have q2 : (t.d != u.d) = false := by rw [hs.1]; simp
        clear hs t0 t7 d0 d1 d2 k4 hk3 HC0 HB0
        obtain ⟨⟨l1, l2⟩, ⟨l3, l4⟩, l5, l6⟩ := hl
        cases q3 : (ka != kb) with
        | false =>
          go_wp2
          go_ret
          exact ⟨rfl, hk4.alloc _ _⟩
        | true =>
          obtain ⟨e1, e2, e3⟩ := ht (by simpa using q3)
          have r1 : (t.x == -u.x) = true := by rw [e1]; simp
          have r2 : (t.y == -u.y) = true := by rw [e2]; simp
          have r3 : (t.z == -u.z) = true := by rw [e3]; simp
          clear e1 e2 e3 ht
          go_wp2
          go_ret
          exact ⟨rfl, hk4.alloc _ _⟩
end Go.Proofs.Ythhpcfnoiooopaa
