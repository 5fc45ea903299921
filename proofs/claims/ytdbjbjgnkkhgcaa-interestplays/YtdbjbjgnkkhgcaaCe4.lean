/- interest.cellOf, many, between: whatever the places and cells. -/
import Derived.Test.YtdbjbjgnkkhgcaaCe0
import Derived.Test.YtdbjbjgnkkhgcaaVec6
import Derived.Test.YtdbjbjgnkkhgcaaGeo2
namespace Go.Proofs.Ytdbjbjgnkkhgcaa
open Go.ChangeShapes Go.WideShapes Go.ChangeAt Go.RowKit
set_option linter.unusedVariables false
set_option linter.unusedSimpArgs false
set_option linter.unusedSectionVars false
variable [DecidableEq Cel]

theorem count_calls (n : Int) (w : World) (h : -65536000 ≤ n ∧ n ≤ 65536000) : Calls Try.prog 29 #[.int .i64 n] w fun e w' => e = .returned (.int .i64 ((n + 65536000) / 6553600)) ∧ Kept w w' := by
  have h1 := h.1
  have h2 := h.2
  go_enter Try.func29, Try.ntmps29
  go_wp2
  go_ret
  refine ⟨ret_int ?_, Kept.refl _⟩
  first | rfl | rw [Int.tdiv_eq_ediv_of_nonneg (by omega)]
theorem bound_pl : bound 65536000 = 65536000 := by decide
theorem celV_of (a b c : Int) : celV (celOf a b c) = .agg #[.int .i64 ((cl 65536000 a + 65536000) / 6553600), .int .i64 ((cl 65536000 b + 65536000) / 6553600), .int .i64 ((cl 65536000 c + 65536000) / 6553600)] := by
  simp only [celV, celOf, celN_eq]
set_option maxRecDepth 100000 in
set_option maxHeartbeats 1000000 in
theorem cellOf_calls (a b c : Int) (w : World) : Calls Try.prog 16 #[.agg #[.int .i64 a, .int .i64 b, .int .i64 c]] w fun e w' => e = .returned (celV (celOf a b c)) ∧ Kept w w' := by
  have ha := cl_both' a
  have hb := cl_both' b
  have hc := cl_both' c
  rw [celV_of]
  go_enter Try.func16, Try.ntmps16
  go_upto_region 3 with (go_at_call 28; refine (clamp_calls a b c 65536000 _ (by omega)).mono ?_; rintro e w1 ⟨rfl, k1⟩)
  simp only [bound_pl]
  obtain ⟨x, hx⟩ : ∃ x, cl 65536000 a = x := ⟨_, rfl⟩
  obtain ⟨y, hy⟩ : ∃ y, cl 65536000 b = y := ⟨_, rfl⟩
  obtain ⟨z, hz⟩ : ∃ z, cl 65536000 c = z := ⟨_, rfl⟩
  simp only [hx, hy, hz] at ha hb hc ⊢
  have HX : Hid (cl 65536000 a = x ∧ cl 65536000 b = y ∧ cl 65536000 c = z) := ⟨hx, hy, hz⟩
  clear hx hy hz
  have hlt : w.heap.size + 1 < w1.heap.size := by have := k1.below.size; simp at this; omega
  have hn : w1.heap.size ≠ w.heap.size + 1 := by omega
  have HR : G3o w w1.heap.size (w.heap.size + 1) (.int .i64 x) (.int .i64 y) (.int .i64 z) (w1.alloc (.cells #[.int .i64 x, .int .i64 y, .int .i64 z] 27)) := by
    refine ⟨((((Kept.refl w).alloc _ _).alloc _ _).trans k1).alloc _ _, ?_, ?_, ?_, cellV_of (later (kept_cell k1 (v := .int .i64 0) ?_) _), cellV_of (later (kept_cell k1 (v := .int .i64 0) ?_) _), cellV_of (later (kept_cell k1 (v := .int .i64 0) ?_) _), laterF (kept_frozen k1 ?_) _ _, laterF (kept_frozen k1 ?_) _ _, laterF (kept_frozen k1 ?_) _ _⟩
    all_goals go_simp
  clear k1
  generalize hkin : w1.heap.size = kin at HR hn hlt ⊢
  generalize hkout : w.heap.size + 1 = kout at HR hn hlt ⊢
  have hko : w.heap.size ≤ kout := by omega
  revert HR
  generalize World.alloc w1 _ = w2
  intro HR
  refine wp_region_held_drew (S := (fun w' => Kept w w' ∧ w'.cell? ⟨kin, 0, none⟩ = some (.int .i64 x) ∧ w'.cell? ⟨kin, 1, none⟩ = some (.int .i64 y) ∧ w'.cell? ⟨kin, 2, none⟩ = some (.int .i64 z) ∧ w'.cell? ⟨kout, 0, none⟩ = some (cellV w' ⟨kout, 0, none⟩) ∧ w'.cell? ⟨kout, 1, none⟩ = some (cellV w' ⟨kout, 1, none⟩) ∧ w'.cell? ⟨kout, 2, none⟩ = some (cellV w' ⟨kout, 2, none⟩) ∧ w'.frozen? ⟨kout, 0, none⟩ = false ∧ w'.frozen? ⟨kout, 1, none⟩ = false ∧ w'.frozen? ⟨kout, 2, none⟩ = false)) (by kernel_rfl) ?_ (fun hHeld1 => ?_)
  · (try dsimp only); exact G3o.drew HR
  refine tkW 0 rfl ?_; refine tkW 1 rfl ?_; refine tkW 2 rfl ?_; refine tkW 4 rfl ?_
  try simp only [Act.put, List.setIfInBounds_toArray, List.set_cons_zero, List.set_cons_succ, List.getElem_toArray, List.getElem_cons_succ, List.getElem_cons_zero]
  refine tkW 5 rfl ?_; refine tkW 6 rfl ?_; refine tkW 8 rfl ?_; refine tkW 9 rfl ?_
  try simp only [Act.put, List.setIfInBounds_toArray, List.set_cons_zero, List.set_cons_succ, List.getElem_toArray, List.getElem_cons_succ, List.getElem_cons_zero]
  refine tkW 10 rfl ?_
  try simp only [Act.put, List.setIfInBounds_toArray, List.set_cons_zero, List.set_cons_succ, List.getElem_toArray, List.getElem_cons_succ, List.getElem_cons_zero]
  refine wpAnyH_ready (rs := [3]) (by kernel_rfl) (by simp) ?_
  refine AllReadyH.cons rfl (fun K hK => ?_) AllReadyH.nil
  first | (with_reducible refine iteYes ?hcx ?htx; case hcx => kernel_rfl) | rw [if_pos (by rfl)]
  simp only [List.getElem_toArray, List.getElem_cons_succ, List.getElem_cons_zero]
  go_simp
  (go_at_call 29; refine (count_calls x _ ha).mono ?_; rintro e w3 ⟨rfl, k3⟩)
  try go_wp2_with fail
  refine hK.out _ _ ?_ (fun hHeld2 => ?_)
  · (try dsimp only); exact G3o.step k3 hHeld1
  clear hK K hHeld1
  try simp only [Act.put, List.setIfInBounds_toArray, List.set_cons_zero, List.set_cons_succ, List.getElem_toArray, List.getElem_cons_succ, List.getElem_cons_zero]
  refine wpAnyH_ready (rs := [7]) (by kernel_rfl) (by simp) ?_
  refine AllReadyH.cons rfl (fun K hK => ?_) AllReadyH.nil
  first | (with_reducible refine iteYes ?hcx ?htx; case hcx => kernel_rfl) | rw [if_pos (by rfl)]
  simp only [List.getElem_toArray, List.getElem_cons_succ, List.getElem_cons_zero]
  go_simp
  (go_at_call 29; refine (count_calls y _ hb).mono ?_; rintro e w4 ⟨rfl, k4⟩)
  try go_wp2_with fail
  refine hK.out _ _ ?_ (fun hHeld3 => ?_)
  · (try dsimp only); exact G3o.step k4 hHeld2
  clear hK K hHeld2
  try simp only [Act.put, List.setIfInBounds_toArray, List.set_cons_zero, List.set_cons_succ, List.getElem_toArray, List.getElem_cons_succ, List.getElem_cons_zero]
  refine wpAnyH_ready (rs := [11]) (by kernel_rfl) (by simp) ?_
  refine AllReadyH.cons rfl (fun K hK => ?_) AllReadyH.nil
  first | (with_reducible refine iteYes ?hcx ?htx; case hcx => kernel_rfl) | rw [if_pos (by rfl)]
  simp only [List.getElem_toArray, List.getElem_cons_succ, List.getElem_cons_zero]
  go_simp
  (go_at_call 29; refine (count_calls z _ hc).mono ?_; rintro e w5 ⟨rfl, k5⟩)
  try go_wp2_with fail
  refine hK.out _ _ ?_ (fun hHeld4 => ?_)
  · (try dsimp only); exact G3o.step k5 hHeld3
  clear hK K hHeld3
  try simp only [Act.put, List.setIfInBounds_toArray, List.set_cons_zero, List.set_cons_succ, List.getElem_toArray, List.getElem_cons_succ, List.getElem_cons_zero]
  refine tkW 12 rfl ?_
  try simp only [Act.put, List.setIfInBounds_toArray, List.set_cons_zero, List.set_cons_succ, List.getElem_toArray, List.getElem_cons_succ, List.getElem_cons_zero]
  refine wpAnyH_ready (rs := [13]) (by kernel_rfl) (by simp) ?_
  refine AllReadyH.cons rfl (fun K hK => ?_) AllReadyH.nil
  first | (with_reducible refine iteYes ?hcx ?htx; case hcx => kernel_rfl) | rw [if_pos (by rfl)]
  simp only [List.getElem_toArray, List.getElem_cons_succ, List.getElem_cons_zero]
  go_simp
  refine hK.out _ _ ?_ (fun hHeld5 => ?_)
  · (try dsimp only); exact (G3o.put 2 _ hko hn (G3o.put 1 _ hko hn (G3o.put 0 _ hko hn hHeld4)))
  clear hK K
  try simp only [Act.put, List.setIfInBounds_toArray, List.set_cons_zero, List.set_cons_succ, List.getElem_toArray, List.getElem_cons_succ, List.getElem_cons_zero]
  refine wpAnyH_done (by kernel_rfl) ?_ _
  go_wp2
  obtain ⟨hk, _, _, _, c0, c1, c2, _⟩ := hHeld4
  obtain ⟨e0, e1, e2⟩ := set3_of (v0 := .int .i64 ((x + 65536000) / 6553600)) (v1 := .int .i64 ((y + 65536000) / 6553600)) (v2 := .int .i64 ((z + 65536000) / 6553600)) c0 c1 c2
  refine bodyPost_ret (v := .agg #[.int .i64 ((x + 65536000) / 6553600), .int .i64 ((y + 65536000) / 6553600), .int .i64 ((z + 65536000) / 6553600)]) (by simp [results, Try.results16, go_sem, e0, e1, e2]) rfl ⟨by rw [HX.out.1, HX.out.2.1, HX.out.2.2], ?_⟩
  exact ((hk.setCell hko _).setCell hko _).setCell hko _
theorem mul_small {a b : Int} (h : 0 ≤ a ∧ a ≤ 21) (k : 0 ≤ b ∧ b ≤ 441) : 0 ≤ a * b ∧ a * b ≤ 9261 := ⟨Int.mul_nonneg h.1 k.1, Int.le_trans (Int.mul_le_mul h.2 k.2 k.1 (by omega)) (by omega)⟩
theorem many_calls (l h : Cel) (w : World) : Calls Try.prog 34 #[celV l, celV h] w fun e w' => ∃ n : Int, e = .returned (.int .i64 n) ∧ Kept w w' := by
  have b1 := l.x.isLt
  have b2 := l.y.isLt
  have b3 := l.z.isLt
  have b4 := h.x.isLt
  have b5 := h.y.isLt
  have b6 := h.z.isLt
  unfold celV
  go_enter Try.func34, Try.ntmps34
  go_wp2
  go_ret
  exact ⟨_, rfl, ((Kept.refl _).alloc _ _).alloc _ _⟩
set_option maxRecDepth 100000 in
set_option maxHeartbeats 2000000 in
theorem between_calls (l c h : Cel) (w : World) : Calls Try.prog 48 #[celV l, celV c, celV h] w fun e w' => e = .returned (.bool (btw l c h)) ∧ Kept w w' := by
  obtain ⟨⟨l1, _⟩, ⟨l2, _⟩, ⟨l3, _⟩⟩ := l
  obtain ⟨⟨c1, _⟩, ⟨c2, _⟩, ⟨c3, _⟩⟩ := c
  obtain ⟨⟨h1, _⟩, ⟨h2, _⟩, ⟨h3, _⟩⟩ := h
  simp only [celV, btw]
  by_cases q1 : l1 ≤ c1
  · by_cases q2 : c1 ≤ h1
    · by_cases q3 : l2 ≤ c2
      · by_cases q4 : c2 ≤ h2
        · by_cases q5 : l3 ≤ c3
          · by_cases q6 : c3 ≤ h3
            · simp only [q1, q2, q3, q4, q5, q6, and_self, decide_true]
              have z1 : decide ((l1 : Int) ≤ (c1 : Int)) = true := by simpa using q1
              have z2 : decide ((c1 : Int) ≤ (h1 : Int)) = true := by simpa using q2
              have z3 : decide ((l2 : Int) ≤ (c2 : Int)) = true := by simpa using q3
              have z4 : decide ((c2 : Int) ≤ (h2 : Int)) = true := by simpa using q4
              have z5 : decide ((l3 : Int) ≤ (c3 : Int)) = true := by simpa using q5
              have z6 : decide ((c3 : Int) ≤ (h3 : Int)) = true := by simpa using q6
              go_enter Try.func48, Try.ntmps48
              go_wp2
              go_ret
              exact ⟨rfl, (((Kept.refl _).alloc _ _).alloc _ _).alloc _ _⟩
            · simp only [q6, and_false, decide_false]
              have z1 : decide ((l1 : Int) ≤ (c1 : Int)) = true := by simpa using q1
              have z2 : decide ((c1 : Int) ≤ (h1 : Int)) = true := by simpa using q2
              have z3 : decide ((l2 : Int) ≤ (c2 : Int)) = true := by simpa using q3
              have z4 : decide ((c2 : Int) ≤ (h2 : Int)) = true := by simpa using q4
              have z5 : decide ((l3 : Int) ≤ (c3 : Int)) = true := by simpa using q5
              have z6 : decide ((c3 : Int) ≤ (h3 : Int)) = false := by simpa using q6
              go_enter Try.func48, Try.ntmps48
              go_wp2
              go_ret
              exact ⟨rfl, (((Kept.refl _).alloc _ _).alloc _ _).alloc _ _⟩
          · simp only [q5, false_and, and_false, decide_false]
            have z1 : decide ((l1 : Int) ≤ (c1 : Int)) = true := by simpa using q1
            have z2 : decide ((c1 : Int) ≤ (h1 : Int)) = true := by simpa using q2
            have z3 : decide ((l2 : Int) ≤ (c2 : Int)) = true := by simpa using q3
            have z4 : decide ((c2 : Int) ≤ (h2 : Int)) = true := by simpa using q4
            have z5 : decide ((l3 : Int) ≤ (c3 : Int)) = false := by simpa using q5
            go_enter Try.func48, Try.ntmps48
            go_wp2
            go_ret
            exact ⟨rfl, (((Kept.refl _).alloc _ _).alloc _ _).alloc _ _⟩
        · simp only [q4, false_and, and_false, decide_false]
          have z1 : decide ((l1 : Int) ≤ (c1 : Int)) = true := by simpa using q1
          have z2 : decide ((c1 : Int) ≤ (h1 : Int)) = true := by simpa using q2
          have z3 : decide ((l2 : Int) ≤ (c2 : Int)) = true := by simpa using q3
          have z4 : decide ((c2 : Int) ≤ (h2 : Int)) = false := by simpa using q4
          go_enter Try.func48, Try.ntmps48
          go_wp2
          go_ret
          exact ⟨rfl, (((Kept.refl _).alloc _ _).alloc _ _).alloc _ _⟩
      · simp only [q3, false_and, and_false, decide_false]
        have z1 : decide ((l1 : Int) ≤ (c1 : Int)) = true := by simpa using q1
        have z2 : decide ((c1 : Int) ≤ (h1 : Int)) = true := by simpa using q2
        have z3 : decide ((l2 : Int) ≤ (c2 : Int)) = false := by simpa using q3
        go_enter Try.func48, Try.ntmps48
        go_wp2
        go_ret
        exact ⟨rfl, (((Kept.refl _).alloc _ _).alloc _ _).alloc _ _⟩
    · simp only [q2, false_and, and_false, decide_false]
      have z1 : decide ((l1 : Int) ≤ (c1 : Int)) = true := by simpa using q1
      have z2 : decide ((c1 : Int) ≤ (h1 : Int)) = false := by simpa using q2
      go_enter Try.func48, Try.ntmps48
      go_wp2
      go_ret
      exact ⟨rfl, (((Kept.refl _).alloc _ _).alloc _ _).alloc _ _⟩
  · simp only [q1, false_and, decide_false]
    have z1 : decide ((l1 : Int) ≤ (c1 : Int)) = false := by simpa using q1
    go_enter Try.func48, Try.ntmps48
    go_wp2
    go_ret
    exact ⟨rfl, (((Kept.refl _).alloc _ _).alloc _ _).alloc _ _⟩
end Go.Proofs.Ytdbjbjgnkkhgcaa
