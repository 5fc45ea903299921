/- gyrelaw.SolveSpeeds: whatever the bodies, the touches and the law. -/
import Derived.Test.YtbfkloclmlnahaaSv17
namespace Go.Proofs.Ytbfkloclmlnahaa
open Go.ChangeShapes Go.WideShapes Go.ChangeAt Go.RowKit
set_option linter.unusedVariables false
set_option linter.unusedSimpArgs false

set_option maxRecDepth 100000 in
set_option maxHeartbeats 8000000 in
theorem solveSpeeds_calls (a b : Option Addr) (n c m d : Nat) (B : Nat → Bd) (T : Nat → Tc) (bo ru ro : Int) (w : World) (h : BodiesAt w a n B) (hs : SlArg a n c) (ht : TouchesAt w b m T) (hid : ∀ j, j < n → In64S (B j).id) :
    Calls Try.prog 11 #[.slice a n c, .slice b m d, .agg #[.int .i64 bo, .int .i64 ru, .int .i64 ro]] w fun e w' => e = .returned (.bool true) ∧ Only [] w w' := by
  have HB : Hid (BodiesAt w a n B ∧ SlArg a n c ∧ TouchesAt w b m T ∧ (∀ j, j < n → In64S (B j).id)) := ⟨h, hs, ht, hid⟩
  clear h hs ht hid
  have o0 : Only [] w (w.alloc (.cells #[.int .i64 bo, .int .i64 ru, .int .i64 ro] 73)) := (Only.refl [] w).alloc _
  by_cases hn : n ≤ 30
  · have t0 : decide ((30 : Int) < (n : Int)) = false := by simp; omega
    by_cases hm : m ≤ 60
    · have t1 : decide ((60 : Int) < (m : Int)) = false := by simp; omega
      have HN : Hid (n ≤ 30 ∧ m ≤ 60) := ⟨hn, hm⟩
      clear hn hm
      go_enter Try.func11, Try.ntmps11
      go_upto_region 1 with fail
      have H0 : Hid (Only [] w (w.alloc (.cells #[.int .i64 bo, .int .i64 ru, .int .i64 ro] 73)) ∧ LawAt (w.alloc (.cells #[.int .i64 bo, .int .i64 ru, .int .i64 ro] 73)) w.heap.size bo ru ro) := ⟨o0, (MapKept.heap_alloc w _).1⟩
      clear o0
      revert H0
      generalize w.heap.size = kb
      generalize World.alloc w _ = w0
      intro H0
      go_wp2_with fail
      refine (alone_calls a n c B w0 HN.out.1 (HB.out.1.only H0.out.1)).mono ?_
      rintro e w1 ⟨v, rfl, hal, o1⟩
      have H1 : Hid ((v = true → Alone n B) ∧ Only [] w w1 ∧ LawAt w1 kb bo ru ro) := ⟨hal, H0.out.1.trans o1, H0.out.2.only o1 (by simp)⟩
      clear hal o1 H0
      cases v with
      | false =>
        go_wp2_with fail
        go_ret
        exact ⟨rfl, H1.out.2.1⟩
      | true =>
        have l0 := H1.out.2.2.off 0; have l1 := H1.out.2.2.off 1; have l2 := H1.out.2.2.off 2
        simp only [List.getElem?_toArray, List.getElem?_cons_succ, List.getElem?_cons_zero] at l0 l1 l2
        go_upto_region 4 with fail
        clear l0 l1 l2
        have H2 : Hid (Only [] w (w1.alloc (.cells #[.int .i64 bo, .int .i64 ru, .int .i64 ro] 75)) ∧ LawAt (w1.alloc (.cells #[.int .i64 bo, .int .i64 ru, .int .i64 ro] 75)) kb bo ru ro ∧ RLawAt (w1.alloc (.cells #[.int .i64 bo, .int .i64 ru, .int .i64 ro] 75)) w1.heap.size bo ru ro ∧ Alone n B) :=
          ⟨H1.out.2.1.alloc _, H1.out.2.2.only ((Only.refl [] w1).alloc _) (by simp), (MapKept.heap_alloc w1 _).1, H1.out.1 (by simp)⟩
        clear H1
        revert H2
        generalize w1.heap.size = kr
        generalize World.alloc w1 _ = w2
        intro H2
        have HK : Hid (∀ w', Only [] w2 w' → Only [] w2 w' ∧ (w'.cell? ⟨kb, 0, none⟩ = some (.int .i64 bo) ∧ w'.cell? ⟨kb, 1, none⟩ = some (.int .i64 ru) ∧ w'.cell? ⟨kb, 2, none⟩ = some (.int .i64 ro)) ∧ w'.cell? ⟨kr, 0, none⟩ = some (.int .i64 bo) ∧ w'.cell? ⟨kr, 1, none⟩ = some (.int .i64 ru) ∧ w'.cell? ⟨kr, 2, none⟩ = some (.int .i64 ro)) := fun w' o =>
          ⟨o, ⟨cell_old1 o (H2.out.2.1.off 0), cell_old1 o (H2.out.2.1.off 1), cell_old1 o (H2.out.2.1.off 2)⟩, cell_old1 o (H2.out.2.2.1.off 0), cell_old1 o (H2.out.2.2.1.off 1), cell_old1 o (H2.out.2.2.1.off 2)⟩
        obtain ⟨C, hC⟩ : ∃ C, C = speedsT n B T m bo ru ro := ⟨_, rfl⟩
        have HC : Hid (C = speedsT n B T m bo ru ro) := hC
        clear hC
        obtain ⟨rv, hrv⟩ : ∃ rv, rightX bo ru ro = rv := ⟨_, rfl⟩
        have HRV : Hid (rightX bo ru ro = rv) := hrv
        clear hrv
        refine wp_region_held_drew (S := (fun w' => Only [] w2 w' ∧ (w'.cell? ⟨kb, 0, none⟩ = some (.int .i64 bo) ∧ w'.cell? ⟨kb, 1, none⟩ = some (.int .i64 ru) ∧ w'.cell? ⟨kb, 2, none⟩ = some (.int .i64 ro)) ∧ w'.cell? ⟨kr, 0, none⟩ = some (.int .i64 bo) ∧ w'.cell? ⟨kr, 1, none⟩ = some (.int .i64 ru) ∧ w'.cell? ⟨kr, 2, none⟩ = some (.int .i64 ro))) (by kernel_rfl) ?_ (fun hHeld1 => ?_)
        · (try dsimp only); exact HK.out _ (Only.refl _ _).drew
        refine wpAnyH_take (i := 0) (v := ?_) rfl (by kernel_rfl) (by kernel_rfl) (by kernel_rfl) (fun _ _ _ h => h) (Or.inl ⟨by kernel_rfl, ?_⟩) (by assumption) ?_
        rotate_left
        · intro w'' hSw; (try dsimp only at hSw); simp only [List.getElem_toArray, List.getElem_cons_succ, List.getElem_cons_zero]; (go_simp <;> with_reducible rfl)
        try simp only [Act.put, List.setIfInBounds_toArray, List.set_cons_zero, List.set_cons_succ, List.getElem_toArray, List.getElem_cons_succ, List.getElem_cons_zero]
        refine wpAnyH_take (i := 2) (v := ?_) rfl (by kernel_rfl) (by kernel_rfl) (by kernel_rfl) (fun _ _ _ h => h) (Or.inl ⟨by kernel_rfl, ?_⟩) (by assumption) ?_
        rotate_left
        · intro w'' hSw; (try dsimp only at hSw); simp only [List.getElem_toArray, List.getElem_cons_succ, List.getElem_cons_zero]; (go_simp <;> with_reducible rfl)
        try simp only [Act.put, List.setIfInBounds_toArray, List.set_cons_zero, List.set_cons_succ, List.getElem_toArray, List.getElem_cons_succ, List.getElem_cons_zero]
        refine wpAnyH_ready (rs := [1]) (by kernel_rfl) (by simp) ?_
        refine AllReadyH.cons rfl (fun K hK => ?_) AllReadyH.nil
        first | (with_reducible refine iteYes ?hcx ?htx; case hcx => kernel_rfl) | rw [if_pos (by rfl)]
        simp only [List.getElem_toArray, List.getElem_cons_succ, List.getElem_cons_zero]
        go_simp
        (go_at_call 66; refine (right_calls bo ru ro _).mono ?_; rintro e w3 ⟨rfl, k3⟩; simp only [HRV.out]; have H3 : Hid (Only [] w2 w3) := (Only.refl [] w2).drew.trans (Only.of_kept k3); clear k3)
        try go_wp2_with fail
        refine hK.out _ _ ?_ (fun hHeld2 => ?_)
        · (try dsimp only); exact HK.out _ H3.out
        clear hK K hHeld1
        try simp only [Act.put, List.setIfInBounds_toArray, List.set_cons_zero, List.set_cons_succ, List.getElem_toArray, List.getElem_cons_succ, List.getElem_cons_zero]
        refine wpAnyH_ready (rs := [3]) (by kernel_rfl) (by simp) ?_
        refine AllReadyH.cons rfl (fun K hK => ?_) AllReadyH.nil
        first | (with_reducible refine iteYes ?hcx ?htx; case hcx => kernel_rfl) | rw [if_pos (by rfl)]
        simp only [List.getElem_toArray, List.getElem_cons_succ, List.getElem_cons_zero]
        go_simp
        (go_at_call 67; refine (refRight_calls bo ru ro _).mono ?_; rintro e w4 ⟨rfl, k4⟩; simp only [HRV.out]; have H4 : Hid (Only [] w2 w4) := H3.out.trans (Only.of_kept k4); clear k4 H3)
        try go_wp2_with fail
        refine hK.out _ _ ?_ (fun hHeld3 => ?_)
        · (try dsimp only); exact HK.out _ H4.out
        clear hK K hHeld2
        try simp only [Act.put, List.setIfInBounds_toArray, List.set_cons_zero, List.set_cons_succ, List.getElem_toArray, List.getElem_cons_succ, List.getElem_cons_zero]
        refine wpAnyH_take (i := 4) (v := .bool true) rfl (by kernel_rfl) (by kernel_rfl) (by kernel_rfl) (fun _ _ _ h => h) (Or.inl ⟨by kernel_rfl, ?_⟩) (by assumption) ?_
        · intro w'' hSw; (try dsimp only at hSw); simp only [List.getElem_toArray, List.getElem_cons_succ, List.getElem_cons_zero]; (go_simp <;> rfl)
        try simp only [Act.put, List.setIfInBounds_toArray, List.set_cons_zero, List.set_cons_succ, List.getElem_toArray, List.getElem_cons_succ, List.getElem_cons_zero]
        refine wpAnyH_take (i := 5) (v := ?_) rfl (by kernel_rfl) (by kernel_rfl) (by kernel_rfl) (fun _ _ _ h => h) (Or.inl ⟨by kernel_rfl, ?_⟩) (by assumption) ?_
        rotate_left
        · intro w'' hSw; (try dsimp only at hSw); simp only [List.getElem_toArray, List.getElem_cons_succ, List.getElem_cons_zero]; (go_simp <;> with_reducible rfl)
        try simp only [Act.put, List.setIfInBounds_toArray, List.set_cons_zero, List.set_cons_succ, List.getElem_toArray, List.getElem_cons_succ, List.getElem_cons_zero]
        refine wpAnyH_take (i := 6) (v := ?_) rfl (by kernel_rfl) (by kernel_rfl) (by kernel_rfl) (fun _ _ _ h => h) (Or.inl ⟨by kernel_rfl, ?_⟩) (by assumption) ?_
        rotate_left
        · intro w'' hSw; (try dsimp only at hSw); simp only [List.getElem_toArray, List.getElem_cons_succ, List.getElem_cons_zero]; (go_simp <;> with_reducible rfl)
        try simp only [Act.put, List.setIfInBounds_toArray, List.set_cons_zero, List.set_cons_succ, List.getElem_toArray, List.getElem_cons_succ, List.getElem_cons_zero]
        refine wpAnyH_take (i := 7) (v := ?_) rfl (by kernel_rfl) (by kernel_rfl) (by kernel_rfl) (fun _ _ _ h => h) (Or.inl ⟨by kernel_rfl, ?_⟩) (by assumption) ?_
        rotate_left
        · intro w'' hSw; (try dsimp only at hSw); simp only [List.getElem_toArray, List.getElem_cons_succ, List.getElem_cons_zero]; (go_simp <;> with_reducible rfl)
        try simp only [Act.put, List.setIfInBounds_toArray, List.set_cons_zero, List.set_cons_succ, List.getElem_toArray, List.getElem_cons_succ, List.getElem_cons_zero]
        refine wpAnyH_take (i := 8) (v := ?_) rfl (by kernel_rfl) (by kernel_rfl) (by kernel_rfl) (fun _ _ _ h => h) (Or.inl ⟨by kernel_rfl, ?_⟩) (by assumption) ?_
        rotate_left
        · intro w'' hSw; (try dsimp only at hSw); simp only [List.getElem_toArray, List.getElem_cons_succ, List.getElem_cons_zero]; (go_simp <;> with_reducible rfl)
        try simp only [Act.put, List.setIfInBounds_toArray, List.set_cons_zero, List.set_cons_succ, List.getElem_toArray, List.getElem_cons_succ, List.getElem_cons_zero]
        refine wpAnyH_take (i := 10) (v := ?_) rfl (by kernel_rfl) (by kernel_rfl) (by kernel_rfl) (fun _ _ _ h => h) (Or.inl ⟨by kernel_rfl, ?_⟩) (by assumption) ?_
        rotate_left
        · intro w'' hSw; (try dsimp only at hSw); simp only [List.getElem_toArray, List.getElem_cons_succ, List.getElem_cons_zero]; (go_simp <;> with_reducible rfl)
        try simp only [Act.put, List.setIfInBounds_toArray, List.set_cons_zero, List.set_cons_succ, List.getElem_toArray, List.getElem_cons_succ, List.getElem_cons_zero]
        refine wpAnyH_take (i := 11) (v := ?_) rfl (by kernel_rfl) (by kernel_rfl) (by kernel_rfl) (fun _ _ _ h => h) (Or.inl ⟨by kernel_rfl, ?_⟩) (by assumption) ?_
        rotate_left
        · intro w'' hSw; (try dsimp only at hSw); simp only [List.getElem_toArray, List.getElem_cons_succ, List.getElem_cons_zero]; (go_simp <;> with_reducible rfl)
        try simp only [Act.put, List.setIfInBounds_toArray, List.set_cons_zero, List.set_cons_succ, List.getElem_toArray, List.getElem_cons_succ, List.getElem_cons_zero]
        refine wpAnyH_take (i := 12) (v := ?_) rfl (by kernel_rfl) (by kernel_rfl) (by kernel_rfl) (fun _ _ _ h => h) (Or.inl ⟨by kernel_rfl, ?_⟩) (by assumption) ?_
        rotate_left
        · intro w'' hSw; (try dsimp only at hSw); simp only [List.getElem_toArray, List.getElem_cons_succ, List.getElem_cons_zero]; (go_simp <;> with_reducible rfl)
        try simp only [Act.put, List.setIfInBounds_toArray, List.set_cons_zero, List.set_cons_succ, List.getElem_toArray, List.getElem_cons_succ, List.getElem_cons_zero]
        refine wpAnyH_ready (rs := [9]) (by kernel_rfl) (by simp) ?_
        refine AllReadyH.cons rfl (fun K hK => ?_) AllReadyH.nil
        first | (with_reducible refine iteYes ?hcx ?htx; case hcx => kernel_rfl) | rw [if_pos (by rfl)]
        simp only [List.getElem_toArray, List.getElem_cons_succ, List.getElem_cons_zero]
        go_simp
        (go_at_call 69; refine (speeds_calls a b n c m d B T bo ru ro _ HN.out.1 HN.out.2 (HB.out.1.only (H2.out.1.trans H4.out)) HB.out.2.1 (HB.out.2.2.1.only (H2.out.1.trans H4.out)) H2.out.2.2.2 HB.out.2.2.2).mono ?_; rintro e w5 ⟨a5, c5, rfl, hb5, o5⟩; rw [speeds_same, ← HC.out] at hb5; have H5 : Hid (Only [] w2 w5 ∧ BodiesAt w5 a5 n C) := ⟨H4.out.trans o5, hb5⟩; clear o5 hb5 H4)
        try go_wp2_with fail
        refine hK.out _ _ ?_ (fun hHeld4 => ?_)
        · (try dsimp only); exact HK.out _ H5.out.1
        clear hK K hHeld3
        try simp only [Act.put, List.setIfInBounds_toArray, List.set_cons_zero, List.set_cons_succ, List.getElem_toArray, List.getElem_cons_succ, List.getElem_cons_zero]
        refine wpAnyH_ready (rs := [13]) (by kernel_rfl) (by simp) ?_
        refine AllReadyH.cons rfl (fun K hK => ?_) AllReadyH.nil
        first | (with_reducible refine iteYes ?hcx ?htx; case hcx => kernel_rfl) | rw [if_pos (by rfl)]
        simp only [List.getElem_toArray, List.getElem_cons_succ, List.getElem_cons_zero]
        go_simp
        (go_at_call 70; refine (refSpeeds_calls a b n c m d B T bo ru ro _ HN.out.1 HN.out.2 (HB.out.1.only (H2.out.1.trans H5.out.1)) HB.out.2.1 (HB.out.2.2.1.only (H2.out.1.trans H5.out.1))).mono ?_; rintro e w6 ⟨a6, c6, rfl, hb6, o6⟩; rw [← HC.out] at hb6; have H6 : Hid (Only [] w2 w6 ∧ BodiesAt w6 a5 n C ∧ BodiesAt w6 a6 n C) := ⟨H5.out.1.trans o6, H5.out.2.only o6, hb6⟩; clear o6 hb6 H5)
        try go_wp2_with fail
        refine hK.out _ _ ?_ (fun hHeld5 => ?_)
        · (try dsimp only); exact HK.out _ H6.out.1
        clear hK K hHeld4
        try simp only [Act.put, List.setIfInBounds_toArray, List.set_cons_zero, List.set_cons_succ, List.getElem_toArray, List.getElem_cons_succ, List.getElem_cons_zero]
        refine wpAnyH_ready (rs := [14]) (by kernel_rfl) (by simp) ?_
        refine AllReadyH.cons rfl (fun K hK => ?_) AllReadyH.nil
        first | (with_reducible refine iteYes ?hcx ?htx; case hcx => kernel_rfl) | rw [if_pos (by rfl)]
        simp only [List.getElem_toArray, List.getElem_cons_succ, List.getElem_cons_zero]
        go_simp
        (go_at_call 68; refine (sameBodies_calls a5 a6 n c5 c6 C _ HN.out.1 H6.out.2.1 H6.out.2.2).mono ?_; rintro e w7 ⟨rfl, o7⟩; have H7 : Hid (Only [] w2 w7) := H6.out.1.trans o7; clear o7 H6)
        try go_wp2_with fail
        refine hK.out _ _ ?_ (fun hHeld6 => ?_)
        · (try dsimp only); exact HK.out _ H7.out
        clear hK K hHeld5
        try simp only [Act.put, List.setIfInBounds_toArray, List.set_cons_zero, List.set_cons_succ, List.getElem_toArray, List.getElem_cons_succ, List.getElem_cons_zero]
        refine wpAnyH_take (i := 15) (v := ?_) rfl (by kernel_rfl) (by kernel_rfl) (by kernel_rfl) (fun _ _ _ h => h) (Or.inl ⟨by kernel_rfl, ?_⟩) (by assumption) ?_
        rotate_left
        · intro w'' hSw; (try dsimp only at hSw); simp only [List.getElem_toArray, List.getElem_cons_succ, List.getElem_cons_zero]; (go_simp <;> with_reducible rfl)
        try simp only [Act.put, List.setIfInBounds_toArray, List.set_cons_zero, List.set_cons_succ, List.getElem_toArray, List.getElem_cons_succ, List.getElem_cons_zero]
        refine wpAnyH_take (i := 16) (v := ?_) rfl (by kernel_rfl) (by kernel_rfl) (by kernel_rfl) (fun _ _ _ h => h) (Or.inl ⟨by kernel_rfl, ?_⟩) (by assumption) ?_
        rotate_left
        · intro w'' hSw; (try dsimp only at hSw); simp only [List.getElem_toArray, List.getElem_cons_succ, List.getElem_cons_zero]; (go_simp <;> with_reducible rfl)
        try simp only [Act.put, List.setIfInBounds_toArray, List.set_cons_zero, List.set_cons_succ, List.getElem_toArray, List.getElem_cons_succ, List.getElem_cons_zero]
        refine wpAnyH_done (by kernel_rfl) ?_ _
        clear HK
        go_wp2_with fail
        go_ret
        exact ⟨rfl, H2.out.1.trans H7.out⟩
    · have t1 : decide ((60 : Int) < (m : Int)) = true := by simp; omega
      go_enter Try.func11, Try.ntmps11
      go_wp2_with fail
      go_ret
      exact ⟨rfl, o0⟩
  · have t0 : decide ((30 : Int) < (n : Int)) = true := by simp; omega
    go_enter Try.func11, Try.ntmps11
    go_wp2_with fail
    go_ret
    exact ⟨rfl, o0⟩
end Go.Proofs.Ytbfkloclmlnahaa
