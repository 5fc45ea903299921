/- gyreref.Speeds' closure give, gyreref.Law.Right: whatever they are. -/
import Derived.Test.YtbfkloclmlnahaaSv13
namespace Go.Proofs.Ytbfkloclmlnahaa
open Go.ChangeShapes Go.WideShapes Go.ChangeAt Go.RowKit
set_option linter.unusedVariables false
set_option linter.unusedSimpArgs false

/-- The variables that give holds. -/
def VarsAt (w : World) (kl ki kx kk ky g n cp i k : Nat) (x y : Int) : Prop := w.cell? ⟨kl, 0, none⟩ = some (.slice (some ⟨g, 0, none⟩) n cp) ∧ w.cell? ⟨ki, 0, none⟩ = some (.int .i64 ((i : Int))) ∧ w.cell? ⟨kx, 0, none⟩ = some (.int .i64 x) ∧ w.cell? ⟨kk, 0, none⟩ = some (.int .i64 ((k : Int))) ∧ w.cell? ⟨ky, 0, none⟩ = some (.int .i64 y)
theorem VarsAt.only {D : List Nat} {w w' : World} {kl ki kx kk ky g n cp i k : Nat} {x y : Int} (h : VarsAt w kl ki kx kk ky g n cp i k x y) (o : Only D w w') (s : kl ∉ D ∧ ki ∉ D ∧ kx ∉ D ∧ kk ∉ D ∧ ky ∉ D) : VarsAt w' kl ki kx kk ky g n cp i k x y :=
  ⟨cell_only o h.1 s.1, cell_only o h.2.1 s.2.1, cell_only o h.2.2.1 s.2.2.1, cell_only o h.2.2.2.1 s.2.2.2.1, cell_only o h.2.2.2.2 s.2.2.2.2⟩
set_option maxRecDepth 100000 in
set_option maxHeartbeats 8000000 in
theorem refGive_calls (kl ki kx kk ky g n cp i k : Nat) (x y a b c j : Int) (B : Nat → Bd) (w : World) (h : OwnB w g n B) (hv : VarsAt w kl ki kx kk ky g n cp i k x y) (hi : i < n) (hk : k < n) (hn : n ≤ 30) (hne : kl ≠ g ∧ ki ≠ g ∧ kx ≠ g ∧ kk ≠ g ∧ ky ≠ g) :
    Calls Try.prog 121 #[.agg #[.int .i64 a, .int .i64 b, .int .i64 c], .int .i64 j, .pointer (some ⟨kl, 0, none⟩), .pointer (some ⟨ki, 0, none⟩), .pointer (some ⟨kx, 0, none⟩), .pointer (some ⟨kk, 0, none⟩), .pointer (some ⟨ky, 0, none⟩)] w fun e w' => e = .returned (.tuple #[]) ∧ OwnB w' g n (giveX B i k x y a b c j) ∧ Only [g] w w' := by
  have HO : Hid (OwnB w g n B ∧ VarsAt w kl ki kx kk ky g n cp i k x y ∧ (kl ≠ g ∧ ki ≠ g ∧ kx ≠ g ∧ kk ≠ g ∧ ky ≠ g)) := ⟨h, hv, hne⟩
  have HI : Hid (i < n ∧ k < n ∧ n ≤ 30) := ⟨hi, hk, hn⟩
  clear h hv hne hi hk hn
  go_enter Try.func121, Try.ntmps121
  go_upto_region 1 with fail
  have H0 : Hid (OwnB (w.alloc (.cells #[.int .i64 a, .int .i64 b, .int .i64 c] 26)) g n B ∧ VarsAt (w.alloc (.cells #[.int .i64 a, .int .i64 b, .int .i64 c] 26)) kl ki kx kk ky g n cp i k x y ∧ VecAt (w.alloc (.cells #[.int .i64 a, .int .i64 b, .int .i64 c] 26)) w.heap.size a b c ∧ w.heap.size ≠ g ∧ Only [] w (w.alloc (.cells #[.int .i64 a, .int .i64 b, .int .i64 c] 26))) := by
    have o : Only [] w (w.alloc (.cells #[.int .i64 a, .int .i64 b, .int .i64 c] 26)) := (Only.refl [] w).alloc _
    have hg := HO.out.1.lt
    exact ⟨HO.out.1.only o (by simp), HO.out.2.1.only o (by simp), (MapKept.heap_alloc w _).1, by omega, o⟩
  revert H0
  generalize w.heap.size = kw
  generalize World.alloc w _ = w1
  intro H0
  have HOW : Hid (OwnB w1 g n B) := H0.out.1
  have HVA : Hid (w1.cell? ⟨kl, 0, none⟩ = some (.slice (some ⟨g, 0, none⟩) n cp) ∧ w1.cell? ⟨ki, 0, none⟩ = some (.int .i64 ((i : Int))) ∧ w1.cell? ⟨kx, 0, none⟩ = some (.int .i64 x) ∧ w1.cell? ⟨kk, 0, none⟩ = some (.int .i64 ((k : Int))) ∧ w1.cell? ⟨ky, 0, none⟩ = some (.int .i64 y) ∧ VecAt w1 kw a b c ∧ kl ≠ g ∧ ki ≠ g ∧ kx ≠ g ∧ kk ≠ g ∧ ky ≠ g ∧ kw ≠ g) := by
    obtain ⟨v1, v2, v3, v4, v5⟩ := H0.out.2.1
    obtain ⟨n1, n2, n3, n4, n5⟩ := HO.out.2.2
    exact ⟨v1, v2, v3, v4, v5, H0.out.2.2.1, n1, n2, n3, n4, n5, H0.out.2.2.2.1⟩
  go_cut [8] from 9 to 23 (fun s8 wc => OwnB wc g n (upd B i (lessV (B i) a b c (mul j x))) ∧ Only [g] w1 wc)
  case first =>
    as_aux_lemma =>
      obtain ⟨q, hq⟩ : ∃ q, q = B i := ⟨_, rfl⟩
      have HQ : Hid (q = B i) := hq
      clear hq
      have HLD : Hid (∀ w', Kept w1 w' → w'.cell? ⟨g, i * 17 + 9, none⟩ = some (.int .i64 (q.vx)) ∧ w'.cell? ⟨g, i * 17 + 10, none⟩ = some (.int .i64 (q.vy)) ∧ w'.cell? ⟨g, i * 17 + 11, none⟩ = some (.int .i64 (q.vz))) := fun w' o => by
        have c6 := HOW.out.cell HI.out.1 (show 9 < 17 by omega); have c7 := HOW.out.cell HI.out.1 (show 10 < 17 by omega); have c8 := HOW.out.cell HI.out.1 (show 11 < 17 by omega)
        rw [← HQ.out] at c6 c7 c8
        exact ⟨kept_cell o c6, kept_cell o c7, kept_cell o c8⟩
      have HK : Hid (∀ w', Only [g] w1 w' → Only [g] w1 w' ∧ (w'.cell? ⟨kw, 0, none⟩ = some (.int .i64 a) ∧ w'.cell? ⟨kw, 1, none⟩ = some (.int .i64 b) ∧ w'.cell? ⟨kw, 2, none⟩ = some (.int .i64 c)) ∧ w'.cell? ⟨kl, 0, none⟩ = some (.slice (some ⟨g, 0, none⟩) n cp) ∧ w'.cell? ⟨ki, 0, none⟩ = some (.int .i64 ((i : Int))) ∧ w'.cell? ⟨kx, 0, none⟩ = some (.int .i64 x)) := fun w' o => by
        obtain ⟨v1, v2, v3, v4, v5, v6, n1, n2, n3, n4, n5, n6⟩ := HVA.out
        exact ⟨o, ⟨cell_only o (v6.off 0) (by simp only [List.mem_singleton]; exact n6), cell_only o (v6.off 1) (by simp only [List.mem_singleton]; exact n6), cell_only o (v6.off 2) (by simp only [List.mem_singleton]; exact n6)⟩, cell_only o v1 (by simp only [List.mem_singleton]; exact n1), cell_only o v2 (by simp only [List.mem_singleton]; exact n2), cell_only o v3 (by simp only [List.mem_singleton]; exact n3)⟩
      have hil : (i : Int) < (n : Int) := by have := HI.out.1; omega
      refine wp_region_held_drew (S := fun w' => Only [g] w1 w' ∧ (w'.cell? ⟨kw, 0, none⟩ = some (.int .i64 a) ∧ w'.cell? ⟨kw, 1, none⟩ = some (.int .i64 b) ∧ w'.cell? ⟨kw, 2, none⟩ = some (.int .i64 c)) ∧ w'.cell? ⟨kl, 0, none⟩ = some (.slice (some ⟨g, 0, none⟩) n cp) ∧ w'.cell? ⟨ki, 0, none⟩ = some (.int .i64 ((i : Int))) ∧ w'.cell? ⟨kx, 0, none⟩ = some (.int .i64 x)) (by kernel_rfl) ?_ (fun hH0 => ?_)
      · (try dsimp only); exact HK.out _ (Only.refl _ _).drew
      refine wpAnyH_take (i := 0) (v := ?_) rfl (by kernel_rfl) (by kernel_rfl) (by kernel_rfl) (fun _ _ _ h => h) (Or.inl ⟨by kernel_rfl, ?_⟩) (by assumption) ?_
      rotate_left
      · intro w'' hSw; (try dsimp only at hSw); simp only [List.getElem_toArray, List.getElem_cons_succ, List.getElem_cons_zero]; (go_simp <;> with_reducible rfl)
      try simp only [Act.put, List.setIfInBounds_toArray, List.set_cons_zero, List.set_cons_succ, List.getElem_toArray, List.getElem_cons_succ, List.getElem_cons_zero]
      refine wpAnyH_take (i := 1) (v := ?_) rfl (by kernel_rfl) (by kernel_rfl) (by kernel_rfl) (fun _ _ _ h => h) (Or.inl ⟨by kernel_rfl, ?_⟩) (by assumption) ?_
      rotate_left
      · intro w'' hSw; (try dsimp only at hSw); simp only [List.getElem_toArray, List.getElem_cons_succ, List.getElem_cons_zero]; (go_simp <;> with_reducible rfl)
      try simp only [Act.put, List.setIfInBounds_toArray, List.set_cons_zero, List.set_cons_succ, List.getElem_toArray, List.getElem_cons_succ, List.getElem_cons_zero]
      refine wpAnyH_take (i := 2) (v := ?_) rfl (by kernel_rfl) (by kernel_rfl) (by kernel_rfl) (fun _ _ _ h => h) (Or.inl ⟨by kernel_rfl, ?_⟩) (by assumption) ?_
      rotate_left
      · intro w'' hSw; (try dsimp only at hSw); simp only [List.getElem_toArray, List.getElem_cons_succ, List.getElem_cons_zero]; (go_simp <;> with_reducible rfl)
      try simp only [Act.put, List.setIfInBounds_toArray, List.set_cons_zero, List.set_cons_succ, List.getElem_toArray, List.getElem_cons_succ, List.getElem_cons_zero]
      refine wpAnyH_take (i := 3) (v := ?_) rfl (by kernel_rfl) (by kernel_rfl) (by kernel_rfl) (fun _ _ _ h => h) (Or.inl ⟨by kernel_rfl, ?_⟩) (by assumption) ?_
      rotate_left
      · intro w'' hSw; (try dsimp only at hSw); simp only [List.getElem_toArray, List.getElem_cons_succ, List.getElem_cons_zero]; (go_simp <;> with_reducible rfl)
      try simp only [Act.put, List.setIfInBounds_toArray, List.set_cons_zero, List.set_cons_succ, List.getElem_toArray, List.getElem_cons_succ, List.getElem_cons_zero]
      refine wpAnyH_take (i := 4) (v := ?_) rfl (by kernel_rfl) (by kernel_rfl) (by kernel_rfl) (fun _ _ _ h => h) (Or.inl ⟨by kernel_rfl, ?_⟩) (by assumption) ?_
      rotate_left
      · intro w'' hSw; (try dsimp only at hSw); simp only [List.getElem_toArray, List.getElem_cons_succ, List.getElem_cons_zero]; (go_simp <;> with_reducible rfl)
      try simp only [Act.put, List.setIfInBounds_toArray, List.set_cons_zero, List.set_cons_succ, List.getElem_toArray, List.getElem_cons_succ, List.getElem_cons_zero]
      refine wpAnyH_take (i := 5) (v := ?_) rfl (by kernel_rfl) (by kernel_rfl) (by kernel_rfl) (fun _ _ _ h => h) (Or.inl ⟨by kernel_rfl, ?_⟩) (by assumption) ?_
      rotate_left
      · intro w'' hSw; (try dsimp only at hSw); simp only [List.getElem_toArray, List.getElem_cons_succ, List.getElem_cons_zero]; (go_simp <;> with_reducible rfl)
      try simp only [Act.put, List.setIfInBounds_toArray, List.set_cons_zero, List.set_cons_succ, List.getElem_toArray, List.getElem_cons_succ, List.getElem_cons_zero]
      refine wpAnyH_take (i := 7) (v := ?_) rfl (by kernel_rfl) (by kernel_rfl) (by kernel_rfl) (fun _ _ _ h => h) (Or.inl ⟨by kernel_rfl, ?_⟩) (by assumption) ?_
      rotate_left
      · intro w'' hSw; (try dsimp only at hSw); simp only [List.getElem_toArray, List.getElem_cons_succ, List.getElem_cons_zero]; (go_simp <;> with_reducible rfl)
      try simp only [Act.put, List.setIfInBounds_toArray, List.set_cons_zero, List.set_cons_succ, List.getElem_toArray, List.getElem_cons_succ, List.getElem_cons_zero]
      refine wpAnyH_take (i := 8) (v := ?_) rfl (by kernel_rfl) (by kernel_rfl) (by kernel_rfl) (fun _ _ _ h => h) (Or.inl ⟨by kernel_rfl, ?_⟩) (by assumption) ?_
      rotate_left
      · intro w'' hSw; (try dsimp only at hSw); simp only [List.getElem_toArray, List.getElem_cons_succ, List.getElem_cons_zero]; (go_simp <;> with_reducible rfl)
      try simp only [Act.put, List.setIfInBounds_toArray, List.set_cons_zero, List.set_cons_succ, List.getElem_toArray, List.getElem_cons_succ, List.getElem_cons_zero]
      refine wpAnyH_take (i := 9) (v := ?_) rfl (by kernel_rfl) (by kernel_rfl) (by kernel_rfl) (fun _ _ _ h => h) (Or.inl ⟨by kernel_rfl, ?_⟩) (by assumption) ?_
      rotate_left
      · intro w'' hSw; (try dsimp only at hSw); simp only [List.getElem_toArray, List.getElem_cons_succ, List.getElem_cons_zero]; (go_simp <;> with_reducible rfl)
      try simp only [Act.put, List.setIfInBounds_toArray, List.set_cons_zero, List.set_cons_succ, List.getElem_toArray, List.getElem_cons_succ, List.getElem_cons_zero]
      refine wpAnyH_ready (rs := [6, 10]) (by kernel_rfl) (by simp) ?_
      refine AllReadyH.cons rfl (fun K hK => ?_) (AllReadyH.cons rfl (fun K hK => ?_) AllReadyH.nil)
      · rw [if_pos (by rfl)]
        obtain ⟨l0, l1, l2⟩ := HLD.out _ (Kept.refl w1).drew
        simp only [List.getElem_toArray, List.getElem_cons_succ, List.getElem_cons_zero]
        go_simp
        clear l0 l1 l2
        refine hK.out _ _ ?_ (fun hH1 => ?_)
        · (try dsimp only); exact HK.out _ (Only.of_kept (Kept.refl w1).drew)
        clear hK K hH0
        try simp only [Act.put, List.setIfInBounds_toArray, List.set_cons_zero, List.set_cons_succ, List.getElem_toArray, List.getElem_cons_succ, List.getElem_cons_zero]
        refine wpAnyH_ready (rs := [10]) (by kernel_rfl) (by simp) ?_
        refine AllReadyH.cons rfl (fun K hK => ?_) AllReadyH.nil
        rw [if_pos (by rfl)]
        simp only [List.getElem_toArray, List.getElem_cons_succ, List.getElem_cons_zero]
        go_simp
        (go_at_call 21; refine (refMul_calls _ _ _).mono ?_; rintro e wq2 ⟨rfl, hq⟩; subst hq)
        try go_wp2_with fail
        refine hK.out _ _ ?_ (fun hH2 => ?_)
        · (try dsimp only); exact HK.out _ (Only.of_kept (Kept.refl w1).drew)
        clear hK K hH1
        try simp only [Act.put, List.setIfInBounds_toArray, List.set_cons_zero, List.set_cons_succ, List.getElem_toArray, List.getElem_cons_succ, List.getElem_cons_zero]
        refine wpAnyH_ready (rs := [11]) (by kernel_rfl) (by simp) ?_
        refine AllReadyH.cons rfl (fun K hK => ?_) AllReadyH.nil
        rw [if_pos (by rfl)]
        simp only [List.getElem_toArray, List.getElem_cons_succ, List.getElem_cons_zero]
        go_simp
        (go_at_call 31; refine (refTimes_calls _ _ _ _ _).mono ?_; rintro e wq3 ⟨rfl, kq3⟩)
        try go_wp2_with fail
        refine hK.out _ _ ?_ (fun hH3 => ?_)
        · (try dsimp only); exact HK.out _ (Only.of_kept ((Kept.refl w1).drew.trans kq3))
        clear hK K hH2
        try simp only [Act.put, List.setIfInBounds_toArray, List.set_cons_zero, List.set_cons_succ, List.getElem_toArray, List.getElem_cons_succ, List.getElem_cons_zero]
        as_aux_lemma =>
          refine wpAnyH_ready (rs := [12]) (by kernel_rfl) (by simp) ?_
          refine AllReadyH.cons rfl (fun K hK => ?_) AllReadyH.nil
          rw [if_pos (by rfl)]
          simp only [List.getElem_toArray, List.getElem_cons_succ, List.getElem_cons_zero]
          go_simp
          (go_at_call 29; refine (refMinus_calls _ _ _ _ _ _ _).mono ?_; rintro e wr3 ⟨rfl, kr3⟩)
          try go_wp2_with fail
          refine hK.out _ _ ?_ (fun hHr3 => ?_)
          · (try dsimp only); exact HK.out _ (Only.of_kept (((Kept.refl w1).drew.trans kq3).trans kr3))
          clear hK K hH3
          try simp only [Act.put, List.setIfInBounds_toArray, List.set_cons_zero, List.set_cons_succ, List.getElem_toArray, List.getElem_cons_succ, List.getElem_cons_zero]
          have K7 : Hid (Kept w1 wr3) := ((Kept.refl w1).drew.trans kq3).trans kr3
          clear kr3
          obtain ⟨e6, e7, e8⟩ := HLD.out _ K7.out
          have f6 := kept_frozen K7.out (HOW.out.free (i * 17 + 9)); have f7 := kept_frozen K7.out (HOW.out.free (i * 17 + 10)); have f8 := kept_frozen K7.out (HOW.out.free (i * 17 + 11))
          refine wpAnyH_take (i := 13) (v := ?_) rfl (by kernel_rfl) (by kernel_rfl) (by kernel_rfl) (fun _ _ _ h => h) (Or.inl ⟨by kernel_rfl, ?_⟩) (by assumption) ?_
          rotate_left
          · intro w'' hSw; (try dsimp only at hSw); simp only [List.getElem_toArray, List.getElem_cons_succ, List.getElem_cons_zero]; (go_simp <;> with_reducible rfl)
          try simp only [Act.put, List.setIfInBounds_toArray, List.set_cons_zero, List.set_cons_succ, List.getElem_toArray, List.getElem_cons_succ, List.getElem_cons_zero]
          refine wpAnyH_take (i := 14) (v := ?_) rfl (by kernel_rfl) (by kernel_rfl) (by kernel_rfl) (fun _ _ _ h => h) (Or.inl ⟨by kernel_rfl, ?_⟩) (by assumption) ?_
          rotate_left
          · intro w'' hSw; (try dsimp only at hSw); simp only [List.getElem_toArray, List.getElem_cons_succ, List.getElem_cons_zero]; (go_simp <;> with_reducible rfl)
          try simp only [Act.put, List.setIfInBounds_toArray, List.set_cons_zero, List.set_cons_succ, List.getElem_toArray, List.getElem_cons_succ, List.getElem_cons_zero]
          refine wpAnyH_ready (rs := [15]) (by kernel_rfl) (by simp) ?_
          refine AllReadyH.cons rfl (fun K hK => ?_) AllReadyH.nil
          rw [if_pos (by rfl)]
          simp only [List.getElem_toArray, List.getElem_cons_succ, List.getElem_cons_zero]
          go_simp
          refine hK.out _ _ ?_ (fun hHr5 => ?_)
          · (try dsimp only); exact HK.out _ ((((Only.of_kept K7.out).setCell (p := ⟨g, i * 17 + 9, none⟩) (Or.inl (by simp)) _).setCell (p := ⟨g, i * 17 + 10, none⟩) (Or.inl (by simp)) _).setCell (p := ⟨g, i * 17 + 11, none⟩) (Or.inl (by simp)) _)
          clear hK K
          try simp only [Act.put, List.setIfInBounds_toArray, List.set_cons_zero, List.set_cons_succ, List.getElem_toArray, List.getElem_cons_succ, List.getElem_cons_zero]
          refine wpAnyH_done (by kernel_rfl) ?_ _
          have HFN : Hid (OwnB (((wr3.setCell ⟨g, i * 17 + 9, none⟩ (.int .i64 (sub q.vx (mul a (mul j x))))).setCell ⟨g, i * 17 + 10, none⟩ (.int .i64 (sub q.vy (mul b (mul j x))))).setCell ⟨g, i * 17 + 11, none⟩ (.int .i64 (sub q.vz (mul c (mul j x))))) g n (upd B i (lessV (B i) a b c (mul j x))) ∧ Only [g] w1 (((wr3.setCell ⟨g, i * 17 + 9, none⟩ (.int .i64 (sub q.vx (mul a (mul j x))))).setCell ⟨g, i * 17 + 10, none⟩ (.int .i64 (sub q.vy (mul b (mul j x))))).setCell ⟨g, i * 17 + 11, none⟩ (.int .i64 (sub q.vz (mul c (mul j x)))))) := by
            refine ⟨?_, (((Only.of_kept K7.out).setCell (p := ⟨g, i * 17 + 9, none⟩) (Or.inl (by simp)) _).setCell (p := ⟨g, i * 17 + 10, none⟩) (Or.inl (by simp)) _).setCell (p := ⟨g, i * 17 + 11, none⟩) (Or.inl (by simp)) _⟩
            have h1 := (HOW.out.only (Only.of_kept (D := []) K7.out) (by simp)).putSp HI.out.1 (sub q.vx (mul a (mul j x))) (sub q.vy (mul b (mul j x))) (sub q.vz (mul c (mul j x)))
            rw [HQ.out] at h1 ⊢
            exact h1
          clear e6 e7 e8 f6 f7 f8 K7 hHr5 hHr3
          go_wp2_with fail
          go_meet
          case rel => exact HFN.out
      · rw [if_pos (by rfl)]
        simp only [List.getElem_toArray, List.getElem_cons_succ, List.getElem_cons_zero]
        go_simp
        (go_at_call 21; refine (refMul_calls _ _ _).mono ?_; rintro e wq4 ⟨rfl, hq⟩; subst hq)
        try go_wp2_with fail
        refine hK.out _ _ ?_ (fun hH4 => ?_)
        · (try dsimp only); exact HK.out _ (Only.of_kept (Kept.refl w1).drew)
        clear hK K hH0
        try simp only [Act.put, List.setIfInBounds_toArray, List.set_cons_zero, List.set_cons_succ, List.getElem_toArray, List.getElem_cons_succ, List.getElem_cons_zero]
        refine wpAnyH_ready (rs := [6, 11]) (by kernel_rfl) (by simp) ?_
        refine AllReadyH.cons rfl (fun K hK => ?_) (AllReadyH.cons rfl (fun K hK => ?_) AllReadyH.nil)
        · rw [if_pos (by rfl)]
          obtain ⟨l0, l1, l2⟩ := HLD.out _ (Kept.refl w1).drew
          simp only [List.getElem_toArray, List.getElem_cons_succ, List.getElem_cons_zero]
          go_simp
          clear l0 l1 l2
          refine hK.out _ _ ?_ (fun hH5 => ?_)
          · (try dsimp only); exact HK.out _ (Only.of_kept (Kept.refl w1).drew)
          clear hK K hH4
          try simp only [Act.put, List.setIfInBounds_toArray, List.set_cons_zero, List.set_cons_succ, List.getElem_toArray, List.getElem_cons_succ, List.getElem_cons_zero]
          refine wpAnyH_ready (rs := [11]) (by kernel_rfl) (by simp) ?_
          refine AllReadyH.cons rfl (fun K hK => ?_) AllReadyH.nil
          rw [if_pos (by rfl)]
          simp only [List.getElem_toArray, List.getElem_cons_succ, List.getElem_cons_zero]
          go_simp
          (go_at_call 31; refine (refTimes_calls _ _ _ _ _).mono ?_; rintro e wq6 ⟨rfl, kq6⟩)
          try go_wp2_with fail
          refine hK.out _ _ ?_ (fun hH6 => ?_)
          · (try dsimp only); exact HK.out _ (Only.of_kept ((Kept.refl w1).drew.trans kq6))
          clear hK K hH5
          try simp only [Act.put, List.setIfInBounds_toArray, List.set_cons_zero, List.set_cons_succ, List.getElem_toArray, List.getElem_cons_succ, List.getElem_cons_zero]
          as_aux_lemma =>
            refine wpAnyH_ready (rs := [12]) (by kernel_rfl) (by simp) ?_
            refine AllReadyH.cons rfl (fun K hK => ?_) AllReadyH.nil
            rw [if_pos (by rfl)]
            simp only [List.getElem_toArray, List.getElem_cons_succ, List.getElem_cons_zero]
            go_simp
            (go_at_call 29; refine (refMinus_calls _ _ _ _ _ _ _).mono ?_; rintro e wr3 ⟨rfl, kr3⟩)
            try go_wp2_with fail
            refine hK.out _ _ ?_ (fun hHr3 => ?_)
            · (try dsimp only); exact HK.out _ (Only.of_kept (((Kept.refl w1).drew.trans kq6).trans kr3))
            clear hK K hH6
            try simp only [Act.put, List.setIfInBounds_toArray, List.set_cons_zero, List.set_cons_succ, List.getElem_toArray, List.getElem_cons_succ, List.getElem_cons_zero]
            have K7 : Hid (Kept w1 wr3) := ((Kept.refl w1).drew.trans kq6).trans kr3
            clear kr3
            obtain ⟨e6, e7, e8⟩ := HLD.out _ K7.out
            have f6 := kept_frozen K7.out (HOW.out.free (i * 17 + 9)); have f7 := kept_frozen K7.out (HOW.out.free (i * 17 + 10)); have f8 := kept_frozen K7.out (HOW.out.free (i * 17 + 11))
            refine wpAnyH_take (i := 13) (v := ?_) rfl (by kernel_rfl) (by kernel_rfl) (by kernel_rfl) (fun _ _ _ h => h) (Or.inl ⟨by kernel_rfl, ?_⟩) (by assumption) ?_
            rotate_left
            · intro w'' hSw; (try dsimp only at hSw); simp only [List.getElem_toArray, List.getElem_cons_succ, List.getElem_cons_zero]; (go_simp <;> with_reducible rfl)
            try simp only [Act.put, List.setIfInBounds_toArray, List.set_cons_zero, List.set_cons_succ, List.getElem_toArray, List.getElem_cons_succ, List.getElem_cons_zero]
            refine wpAnyH_take (i := 14) (v := ?_) rfl (by kernel_rfl) (by kernel_rfl) (by kernel_rfl) (fun _ _ _ h => h) (Or.inl ⟨by kernel_rfl, ?_⟩) (by assumption) ?_
            rotate_left
            · intro w'' hSw; (try dsimp only at hSw); simp only [List.getElem_toArray, List.getElem_cons_succ, List.getElem_cons_zero]; (go_simp <;> with_reducible rfl)
            try simp only [Act.put, List.setIfInBounds_toArray, List.set_cons_zero, List.set_cons_succ, List.getElem_toArray, List.getElem_cons_succ, List.getElem_cons_zero]
            refine wpAnyH_ready (rs := [15]) (by kernel_rfl) (by simp) ?_
            refine AllReadyH.cons rfl (fun K hK => ?_) AllReadyH.nil
            rw [if_pos (by rfl)]
            simp only [List.getElem_toArray, List.getElem_cons_succ, List.getElem_cons_zero]
            go_simp
            refine hK.out _ _ ?_ (fun hHr5 => ?_)
            · (try dsimp only); exact HK.out _ ((((Only.of_kept K7.out).setCell (p := ⟨g, i * 17 + 9, none⟩) (Or.inl (by simp)) _).setCell (p := ⟨g, i * 17 + 10, none⟩) (Or.inl (by simp)) _).setCell (p := ⟨g, i * 17 + 11, none⟩) (Or.inl (by simp)) _)
            clear hK K
            try simp only [Act.put, List.setIfInBounds_toArray, List.set_cons_zero, List.set_cons_succ, List.getElem_toArray, List.getElem_cons_succ, List.getElem_cons_zero]
            refine wpAnyH_done (by kernel_rfl) ?_ _
            have HFN : Hid (OwnB (((wr3.setCell ⟨g, i * 17 + 9, none⟩ (.int .i64 (sub q.vx (mul a (mul j x))))).setCell ⟨g, i * 17 + 10, none⟩ (.int .i64 (sub q.vy (mul b (mul j x))))).setCell ⟨g, i * 17 + 11, none⟩ (.int .i64 (sub q.vz (mul c (mul j x))))) g n (upd B i (lessV (B i) a b c (mul j x))) ∧ Only [g] w1 (((wr3.setCell ⟨g, i * 17 + 9, none⟩ (.int .i64 (sub q.vx (mul a (mul j x))))).setCell ⟨g, i * 17 + 10, none⟩ (.int .i64 (sub q.vy (mul b (mul j x))))).setCell ⟨g, i * 17 + 11, none⟩ (.int .i64 (sub q.vz (mul c (mul j x)))))) := by
              refine ⟨?_, (((Only.of_kept K7.out).setCell (p := ⟨g, i * 17 + 9, none⟩) (Or.inl (by simp)) _).setCell (p := ⟨g, i * 17 + 10, none⟩) (Or.inl (by simp)) _).setCell (p := ⟨g, i * 17 + 11, none⟩) (Or.inl (by simp)) _⟩
              have h1 := (HOW.out.only (Only.of_kept (D := []) K7.out) (by simp)).putSp HI.out.1 (sub q.vx (mul a (mul j x))) (sub q.vy (mul b (mul j x))) (sub q.vz (mul c (mul j x)))
              rw [HQ.out] at h1 ⊢
              exact h1
            clear e6 e7 e8 f6 f7 f8 K7 hHr5 hHr3
            go_wp2_with fail
            go_meet
            case rel => exact HFN.out
        · rw [if_pos (by rfl)]
          simp only [List.getElem_toArray, List.getElem_cons_succ, List.getElem_cons_zero]
          go_simp
          (go_at_call 31; refine (refTimes_calls _ _ _ _ _).mono ?_; rintro e wq7 ⟨rfl, kq7⟩)
          try go_wp2_with fail
          refine hK.out _ _ ?_ (fun hH7 => ?_)
          · (try dsimp only); exact HK.out _ (Only.of_kept ((Kept.refl w1).drew.trans kq7))
          clear hK K hH4
          try simp only [Act.put, List.setIfInBounds_toArray, List.set_cons_zero, List.set_cons_succ, List.getElem_toArray, List.getElem_cons_succ, List.getElem_cons_zero]
          refine wpAnyH_ready (rs := [6]) (by kernel_rfl) (by simp) ?_
          refine AllReadyH.cons rfl (fun K hK => ?_) AllReadyH.nil
          rw [if_pos (by rfl)]
          obtain ⟨l0, l1, l2⟩ := HLD.out _ ((Kept.refl w1).drew.trans kq7)
          simp only [List.getElem_toArray, List.getElem_cons_succ, List.getElem_cons_zero]
          go_simp
          clear l0 l1 l2
          refine hK.out _ _ ?_ (fun hH8 => ?_)
          · (try dsimp only); exact HK.out _ (Only.of_kept ((Kept.refl w1).drew.trans kq7))
          clear hK K hH7
          try simp only [Act.put, List.setIfInBounds_toArray, List.set_cons_zero, List.set_cons_succ, List.getElem_toArray, List.getElem_cons_succ, List.getElem_cons_zero]
          as_aux_lemma =>
            refine wpAnyH_ready (rs := [12]) (by kernel_rfl) (by simp) ?_
            refine AllReadyH.cons rfl (fun K hK => ?_) AllReadyH.nil
            rw [if_pos (by rfl)]
            simp only [List.getElem_toArray, List.getElem_cons_succ, List.getElem_cons_zero]
            go_simp
            (go_at_call 29; refine (refMinus_calls _ _ _ _ _ _ _).mono ?_; rintro e wr3 ⟨rfl, kr3⟩)
            try go_wp2_with fail
            refine hK.out _ _ ?_ (fun hHr3 => ?_)
            · (try dsimp only); exact HK.out _ (Only.of_kept (((Kept.refl w1).drew.trans kq7).trans kr3))
            clear hK K hH8
            try simp only [Act.put, List.setIfInBounds_toArray, List.set_cons_zero, List.set_cons_succ, List.getElem_toArray, List.getElem_cons_succ, List.getElem_cons_zero]
            have K7 : Hid (Kept w1 wr3) := ((Kept.refl w1).drew.trans kq7).trans kr3
            clear kr3
            obtain ⟨e6, e7, e8⟩ := HLD.out _ K7.out
            have f6 := kept_frozen K7.out (HOW.out.free (i * 17 + 9)); have f7 := kept_frozen K7.out (HOW.out.free (i * 17 + 10)); have f8 := kept_frozen K7.out (HOW.out.free (i * 17 + 11))
            refine wpAnyH_take (i := 13) (v := ?_) rfl (by kernel_rfl) (by kernel_rfl) (by kernel_rfl) (fun _ _ _ h => h) (Or.inl ⟨by kernel_rfl, ?_⟩) (by assumption) ?_
            rotate_left
            · intro w'' hSw; (try dsimp only at hSw); simp only [List.getElem_toArray, List.getElem_cons_succ, List.getElem_cons_zero]; (go_simp <;> with_reducible rfl)
            try simp only [Act.put, List.setIfInBounds_toArray, List.set_cons_zero, List.set_cons_succ, List.getElem_toArray, List.getElem_cons_succ, List.getElem_cons_zero]
            refine wpAnyH_take (i := 14) (v := ?_) rfl (by kernel_rfl) (by kernel_rfl) (by kernel_rfl) (fun _ _ _ h => h) (Or.inl ⟨by kernel_rfl, ?_⟩) (by assumption) ?_
            rotate_left
            · intro w'' hSw; (try dsimp only at hSw); simp only [List.getElem_toArray, List.getElem_cons_succ, List.getElem_cons_zero]; (go_simp <;> with_reducible rfl)
            try simp only [Act.put, List.setIfInBounds_toArray, List.set_cons_zero, List.set_cons_succ, List.getElem_toArray, List.getElem_cons_succ, List.getElem_cons_zero]
            refine wpAnyH_ready (rs := [15]) (by kernel_rfl) (by simp) ?_
            refine AllReadyH.cons rfl (fun K hK => ?_) AllReadyH.nil
            rw [if_pos (by rfl)]
            simp only [List.getElem_toArray, List.getElem_cons_succ, List.getElem_cons_zero]
            go_simp
            refine hK.out _ _ ?_ (fun hHr5 => ?_)
            · (try dsimp only); exact HK.out _ ((((Only.of_kept K7.out).setCell (p := ⟨g, i * 17 + 9, none⟩) (Or.inl (by simp)) _).setCell (p := ⟨g, i * 17 + 10, none⟩) (Or.inl (by simp)) _).setCell (p := ⟨g, i * 17 + 11, none⟩) (Or.inl (by simp)) _)
            clear hK K
            try simp only [Act.put, List.setIfInBounds_toArray, List.set_cons_zero, List.set_cons_succ, List.getElem_toArray, List.getElem_cons_succ, List.getElem_cons_zero]
            refine wpAnyH_done (by kernel_rfl) ?_ _
            have HFN : Hid (OwnB (((wr3.setCell ⟨g, i * 17 + 9, none⟩ (.int .i64 (sub q.vx (mul a (mul j x))))).setCell ⟨g, i * 17 + 10, none⟩ (.int .i64 (sub q.vy (mul b (mul j x))))).setCell ⟨g, i * 17 + 11, none⟩ (.int .i64 (sub q.vz (mul c (mul j x))))) g n (upd B i (lessV (B i) a b c (mul j x))) ∧ Only [g] w1 (((wr3.setCell ⟨g, i * 17 + 9, none⟩ (.int .i64 (sub q.vx (mul a (mul j x))))).setCell ⟨g, i * 17 + 10, none⟩ (.int .i64 (sub q.vy (mul b (mul j x))))).setCell ⟨g, i * 17 + 11, none⟩ (.int .i64 (sub q.vz (mul c (mul j x)))))) := by
              refine ⟨?_, (((Only.of_kept K7.out).setCell (p := ⟨g, i * 17 + 9, none⟩) (Or.inl (by simp)) _).setCell (p := ⟨g, i * 17 + 10, none⟩) (Or.inl (by simp)) _).setCell (p := ⟨g, i * 17 + 11, none⟩) (Or.inl (by simp)) _⟩
              have h1 := (HOW.out.only (Only.of_kept (D := []) K7.out) (by simp)).putSp HI.out.1 (sub q.vx (mul a (mul j x))) (sub q.vy (mul b (mul j x))) (sub q.vz (mul c (mul j x)))
              rw [HQ.out] at h1 ⊢
              exact h1
            clear e6 e7 e8 f6 f7 f8 K7 hHr5 hHr3
            go_wp2_with fail
            go_meet
            case rel => exact HFN.out
  case rest =>
    obtain ⟨hO1, o1⟩ := hcut
    obtain ⟨w2, hw2⟩ : ∃ w2, w2 = wc := ⟨wc, rfl⟩
    subst hw2
    obtain ⟨B1, hB1⟩ : ∃ B1, B1 = upd B i (lessV (B i) a b c (mul j x)) := ⟨_, rfl⟩
    rw [← hB1] at hO1
    have HB1 : Hid (B1 = upd B i (lessV (B i) a b c (mul j x)) ∧ Only [g] w1 w2) := ⟨hB1, o1⟩
    have HOW2 : Hid (OwnB w2 g n B1) := hO1
    have HVA2 : Hid (w2.cell? ⟨kl, 0, none⟩ = some (.slice (some ⟨g, 0, none⟩) n cp) ∧ w2.cell? ⟨ki, 0, none⟩ = some (.int .i64 ((i : Int))) ∧ w2.cell? ⟨kx, 0, none⟩ = some (.int .i64 x) ∧ w2.cell? ⟨kk, 0, none⟩ = some (.int .i64 ((k : Int))) ∧ w2.cell? ⟨ky, 0, none⟩ = some (.int .i64 y) ∧ VecAt w2 kw a b c ∧ kl ≠ g ∧ ki ≠ g ∧ kx ≠ g ∧ kk ≠ g ∧ ky ≠ g ∧ kw ≠ g) := by
      obtain ⟨v1, v2, v3, v4, v5, v6, n1, n2, n3, n4, n5, n6⟩ := HVA.out
      exact ⟨cell_only o1 v1 (by simp only [List.mem_singleton]; exact n1), cell_only o1 v2 (by simp only [List.mem_singleton]; exact n2), cell_only o1 v3 (by simp only [List.mem_singleton]; exact n3), cell_only o1 v4 (by simp only [List.mem_singleton]; exact n4), cell_only o1 v5 (by simp only [List.mem_singleton]; exact n5), v6.only o1 (by simp only [List.mem_singleton]; exact n6), n1, n2, n3, n4, n5, n6⟩
    clear hB1 hO1 o1 HOW HVA
    have HOW := HOW2
    have HVA := HVA2
    clear HOW2 HVA2
    go_upto_region 2 with fail
    as_aux_lemma =>
      obtain ⟨q, hq⟩ : ∃ q, q = B1 k := ⟨_, rfl⟩
      have HQ : Hid (q = B1 k) := hq
      clear hq
      have HLD : Hid (∀ w', Kept w2 w' → w'.cell? ⟨g, k * 17 + 9, none⟩ = some (.int .i64 (q.vx)) ∧ w'.cell? ⟨g, k * 17 + 10, none⟩ = some (.int .i64 (q.vy)) ∧ w'.cell? ⟨g, k * 17 + 11, none⟩ = some (.int .i64 (q.vz))) := fun w' o => by
        have c6 := HOW.out.cell HI.out.2.1 (show 9 < 17 by omega); have c7 := HOW.out.cell HI.out.2.1 (show 10 < 17 by omega); have c8 := HOW.out.cell HI.out.2.1 (show 11 < 17 by omega)
        rw [← HQ.out] at c6 c7 c8
        exact ⟨kept_cell o c6, kept_cell o c7, kept_cell o c8⟩
      have HK : Hid (∀ w', Only [g] w2 w' → Only [g] w2 w' ∧ (w'.cell? ⟨kw, 0, none⟩ = some (.int .i64 a) ∧ w'.cell? ⟨kw, 1, none⟩ = some (.int .i64 b) ∧ w'.cell? ⟨kw, 2, none⟩ = some (.int .i64 c)) ∧ w'.cell? ⟨kl, 0, none⟩ = some (.slice (some ⟨g, 0, none⟩) n cp) ∧ w'.cell? ⟨kk, 0, none⟩ = some (.int .i64 ((k : Int))) ∧ w'.cell? ⟨ky, 0, none⟩ = some (.int .i64 y)) := fun w' o => by
        obtain ⟨v1, v2, v3, v4, v5, v6, n1, n2, n3, n4, n5, n6⟩ := HVA.out
        exact ⟨o, ⟨cell_only o (v6.off 0) (by simp only [List.mem_singleton]; exact n6), cell_only o (v6.off 1) (by simp only [List.mem_singleton]; exact n6), cell_only o (v6.off 2) (by simp only [List.mem_singleton]; exact n6)⟩, cell_only o v1 (by simp only [List.mem_singleton]; exact n1), cell_only o v4 (by simp only [List.mem_singleton]; exact n4), cell_only o v5 (by simp only [List.mem_singleton]; exact n5)⟩
      have hil : (k : Int) < (n : Int) := by have := HI.out.2.1; omega
      refine wp_region_held_drew (S := fun w' => Only [g] w2 w' ∧ (w'.cell? ⟨kw, 0, none⟩ = some (.int .i64 a) ∧ w'.cell? ⟨kw, 1, none⟩ = some (.int .i64 b) ∧ w'.cell? ⟨kw, 2, none⟩ = some (.int .i64 c)) ∧ w'.cell? ⟨kl, 0, none⟩ = some (.slice (some ⟨g, 0, none⟩) n cp) ∧ w'.cell? ⟨kk, 0, none⟩ = some (.int .i64 ((k : Int))) ∧ w'.cell? ⟨ky, 0, none⟩ = some (.int .i64 y)) (by kernel_rfl) ?_ (fun hH0 => ?_)
      · (try dsimp only); exact HK.out _ (Only.refl _ _).drew
      refine wpAnyH_take (i := 0) (v := ?_) rfl (by kernel_rfl) (by kernel_rfl) (by kernel_rfl) (fun _ _ _ h => h) (Or.inl ⟨by kernel_rfl, ?_⟩) (by assumption) ?_
      rotate_left
      · intro w'' hSw; (try dsimp only at hSw); simp only [List.getElem_toArray, List.getElem_cons_succ, List.getElem_cons_zero]; (go_simp <;> with_reducible rfl)
      try simp only [Act.put, List.setIfInBounds_toArray, List.set_cons_zero, List.set_cons_succ, List.getElem_toArray, List.getElem_cons_succ, List.getElem_cons_zero]
      refine wpAnyH_take (i := 1) (v := ?_) rfl (by kernel_rfl) (by kernel_rfl) (by kernel_rfl) (fun _ _ _ h => h) (Or.inl ⟨by kernel_rfl, ?_⟩) (by assumption) ?_
      rotate_left
      · intro w'' hSw; (try dsimp only at hSw); simp only [List.getElem_toArray, List.getElem_cons_succ, List.getElem_cons_zero]; (go_simp <;> with_reducible rfl)
      try simp only [Act.put, List.setIfInBounds_toArray, List.set_cons_zero, List.set_cons_succ, List.getElem_toArray, List.getElem_cons_succ, List.getElem_cons_zero]
      refine wpAnyH_take (i := 2) (v := ?_) rfl (by kernel_rfl) (by kernel_rfl) (by kernel_rfl) (fun _ _ _ h => h) (Or.inl ⟨by kernel_rfl, ?_⟩) (by assumption) ?_
      rotate_left
      · intro w'' hSw; (try dsimp only at hSw); simp only [List.getElem_toArray, List.getElem_cons_succ, List.getElem_cons_zero]; (go_simp <;> with_reducible rfl)
      try simp only [Act.put, List.setIfInBounds_toArray, List.set_cons_zero, List.set_cons_succ, List.getElem_toArray, List.getElem_cons_succ, List.getElem_cons_zero]
      refine wpAnyH_take (i := 3) (v := ?_) rfl (by kernel_rfl) (by kernel_rfl) (by kernel_rfl) (fun _ _ _ h => h) (Or.inl ⟨by kernel_rfl, ?_⟩) (by assumption) ?_
      rotate_left
      · intro w'' hSw; (try dsimp only at hSw); simp only [List.getElem_toArray, List.getElem_cons_succ, List.getElem_cons_zero]; (go_simp <;> with_reducible rfl)
      try simp only [Act.put, List.setIfInBounds_toArray, List.set_cons_zero, List.set_cons_succ, List.getElem_toArray, List.getElem_cons_succ, List.getElem_cons_zero]
      refine wpAnyH_take (i := 4) (v := ?_) rfl (by kernel_rfl) (by kernel_rfl) (by kernel_rfl) (fun _ _ _ h => h) (Or.inl ⟨by kernel_rfl, ?_⟩) (by assumption) ?_
      rotate_left
      · intro w'' hSw; (try dsimp only at hSw); simp only [List.getElem_toArray, List.getElem_cons_succ, List.getElem_cons_zero]; (go_simp <;> with_reducible rfl)
      try simp only [Act.put, List.setIfInBounds_toArray, List.set_cons_zero, List.set_cons_succ, List.getElem_toArray, List.getElem_cons_succ, List.getElem_cons_zero]
      refine wpAnyH_take (i := 5) (v := ?_) rfl (by kernel_rfl) (by kernel_rfl) (by kernel_rfl) (fun _ _ _ h => h) (Or.inl ⟨by kernel_rfl, ?_⟩) (by assumption) ?_
      rotate_left
      · intro w'' hSw; (try dsimp only at hSw); simp only [List.getElem_toArray, List.getElem_cons_succ, List.getElem_cons_zero]; (go_simp <;> with_reducible rfl)
      try simp only [Act.put, List.setIfInBounds_toArray, List.set_cons_zero, List.set_cons_succ, List.getElem_toArray, List.getElem_cons_succ, List.getElem_cons_zero]
      refine wpAnyH_take (i := 7) (v := ?_) rfl (by kernel_rfl) (by kernel_rfl) (by kernel_rfl) (fun _ _ _ h => h) (Or.inl ⟨by kernel_rfl, ?_⟩) (by assumption) ?_
      rotate_left
      · intro w'' hSw; (try dsimp only at hSw); simp only [List.getElem_toArray, List.getElem_cons_succ, List.getElem_cons_zero]; (go_simp <;> with_reducible rfl)
      try simp only [Act.put, List.setIfInBounds_toArray, List.set_cons_zero, List.set_cons_succ, List.getElem_toArray, List.getElem_cons_succ, List.getElem_cons_zero]
      refine wpAnyH_take (i := 8) (v := ?_) rfl (by kernel_rfl) (by kernel_rfl) (by kernel_rfl) (fun _ _ _ h => h) (Or.inl ⟨by kernel_rfl, ?_⟩) (by assumption) ?_
      rotate_left
      · intro w'' hSw; (try dsimp only at hSw); simp only [List.getElem_toArray, List.getElem_cons_succ, List.getElem_cons_zero]; (go_simp <;> with_reducible rfl)
      try simp only [Act.put, List.setIfInBounds_toArray, List.set_cons_zero, List.set_cons_succ, List.getElem_toArray, List.getElem_cons_succ, List.getElem_cons_zero]
      refine wpAnyH_take (i := 9) (v := ?_) rfl (by kernel_rfl) (by kernel_rfl) (by kernel_rfl) (fun _ _ _ h => h) (Or.inl ⟨by kernel_rfl, ?_⟩) (by assumption) ?_
      rotate_left
      · intro w'' hSw; (try dsimp only at hSw); simp only [List.getElem_toArray, List.getElem_cons_succ, List.getElem_cons_zero]; (go_simp <;> with_reducible rfl)
      try simp only [Act.put, List.setIfInBounds_toArray, List.set_cons_zero, List.set_cons_succ, List.getElem_toArray, List.getElem_cons_succ, List.getElem_cons_zero]
      refine wpAnyH_ready (rs := [6, 10]) (by kernel_rfl) (by simp) ?_
      refine AllReadyH.cons rfl (fun K hK => ?_) (AllReadyH.cons rfl (fun K hK => ?_) AllReadyH.nil)
      · rw [if_pos (by rfl)]
        obtain ⟨l0, l1, l2⟩ := HLD.out _ (Kept.refl w2).drew
        simp only [List.getElem_toArray, List.getElem_cons_succ, List.getElem_cons_zero]
        go_simp
        clear l0 l1 l2
        refine hK.out _ _ ?_ (fun hH1 => ?_)
        · (try dsimp only); exact HK.out _ (Only.of_kept (Kept.refl w2).drew)
        clear hK K hH0
        try simp only [Act.put, List.setIfInBounds_toArray, List.set_cons_zero, List.set_cons_succ, List.getElem_toArray, List.getElem_cons_succ, List.getElem_cons_zero]
        refine wpAnyH_ready (rs := [10]) (by kernel_rfl) (by simp) ?_
        refine AllReadyH.cons rfl (fun K hK => ?_) AllReadyH.nil
        rw [if_pos (by rfl)]
        simp only [List.getElem_toArray, List.getElem_cons_succ, List.getElem_cons_zero]
        go_simp
        (go_at_call 21; refine (refMul_calls _ _ _).mono ?_; rintro e wq2 ⟨rfl, hq⟩; subst hq)
        try go_wp2_with fail
        refine hK.out _ _ ?_ (fun hH2 => ?_)
        · (try dsimp only); exact HK.out _ (Only.of_kept (Kept.refl w2).drew)
        clear hK K hH1
        try simp only [Act.put, List.setIfInBounds_toArray, List.set_cons_zero, List.set_cons_succ, List.getElem_toArray, List.getElem_cons_succ, List.getElem_cons_zero]
        refine wpAnyH_ready (rs := [11]) (by kernel_rfl) (by simp) ?_
        refine AllReadyH.cons rfl (fun K hK => ?_) AllReadyH.nil
        rw [if_pos (by rfl)]
        simp only [List.getElem_toArray, List.getElem_cons_succ, List.getElem_cons_zero]
        go_simp
        (go_at_call 31; refine (refTimes_calls _ _ _ _ _).mono ?_; rintro e wq3 ⟨rfl, kq3⟩)
        try go_wp2_with fail
        refine hK.out _ _ ?_ (fun hH3 => ?_)
        · (try dsimp only); exact HK.out _ (Only.of_kept ((Kept.refl w2).drew.trans kq3))
        clear hK K hH2
        try simp only [Act.put, List.setIfInBounds_toArray, List.set_cons_zero, List.set_cons_succ, List.getElem_toArray, List.getElem_cons_succ, List.getElem_cons_zero]
        as_aux_lemma =>
          refine wpAnyH_ready (rs := [12]) (by kernel_rfl) (by simp) ?_
          refine AllReadyH.cons rfl (fun K hK => ?_) AllReadyH.nil
          rw [if_pos (by rfl)]
          simp only [List.getElem_toArray, List.getElem_cons_succ, List.getElem_cons_zero]
          go_simp
          (go_at_call 27; refine (refPlus_calls _ _ _ _ _ _ _).mono ?_; rintro e wr3 ⟨rfl, kr3⟩)
          try go_wp2_with fail
          refine hK.out _ _ ?_ (fun hHr3 => ?_)
          · (try dsimp only); exact HK.out _ (Only.of_kept (((Kept.refl w2).drew.trans kq3).trans kr3))
          clear hK K hH3
          try simp only [Act.put, List.setIfInBounds_toArray, List.set_cons_zero, List.set_cons_succ, List.getElem_toArray, List.getElem_cons_succ, List.getElem_cons_zero]
          have K7 : Hid (Kept w2 wr3) := ((Kept.refl w2).drew.trans kq3).trans kr3
          clear kr3
          obtain ⟨e6, e7, e8⟩ := HLD.out _ K7.out
          have f6 := kept_frozen K7.out (HOW.out.free (k * 17 + 9)); have f7 := kept_frozen K7.out (HOW.out.free (k * 17 + 10)); have f8 := kept_frozen K7.out (HOW.out.free (k * 17 + 11))
          refine wpAnyH_take (i := 13) (v := ?_) rfl (by kernel_rfl) (by kernel_rfl) (by kernel_rfl) (fun _ _ _ h => h) (Or.inl ⟨by kernel_rfl, ?_⟩) (by assumption) ?_
          rotate_left
          · intro w'' hSw; (try dsimp only at hSw); simp only [List.getElem_toArray, List.getElem_cons_succ, List.getElem_cons_zero]; (go_simp <;> with_reducible rfl)
          try simp only [Act.put, List.setIfInBounds_toArray, List.set_cons_zero, List.set_cons_succ, List.getElem_toArray, List.getElem_cons_succ, List.getElem_cons_zero]
          refine wpAnyH_take (i := 14) (v := ?_) rfl (by kernel_rfl) (by kernel_rfl) (by kernel_rfl) (fun _ _ _ h => h) (Or.inl ⟨by kernel_rfl, ?_⟩) (by assumption) ?_
          rotate_left
          · intro w'' hSw; (try dsimp only at hSw); simp only [List.getElem_toArray, List.getElem_cons_succ, List.getElem_cons_zero]; (go_simp <;> with_reducible rfl)
          try simp only [Act.put, List.setIfInBounds_toArray, List.set_cons_zero, List.set_cons_succ, List.getElem_toArray, List.getElem_cons_succ, List.getElem_cons_zero]
          refine wpAnyH_ready (rs := [15]) (by kernel_rfl) (by simp) ?_
          refine AllReadyH.cons rfl (fun K hK => ?_) AllReadyH.nil
          rw [if_pos (by rfl)]
          simp only [List.getElem_toArray, List.getElem_cons_succ, List.getElem_cons_zero]
          go_simp
          refine hK.out _ _ ?_ (fun hHr5 => ?_)
          · (try dsimp only); exact HK.out _ ((((Only.of_kept K7.out).setCell (p := ⟨g, k * 17 + 9, none⟩) (Or.inl (by simp)) _).setCell (p := ⟨g, k * 17 + 10, none⟩) (Or.inl (by simp)) _).setCell (p := ⟨g, k * 17 + 11, none⟩) (Or.inl (by simp)) _)
          clear hK K
          try simp only [Act.put, List.setIfInBounds_toArray, List.set_cons_zero, List.set_cons_succ, List.getElem_toArray, List.getElem_cons_succ, List.getElem_cons_zero]
          refine wpAnyH_done (by kernel_rfl) ?_ _
          have HFN : Hid (OwnB (((wr3.setCell ⟨g, k * 17 + 9, none⟩ (.int .i64 (add q.vx (mul a (mul j y))))).setCell ⟨g, k * 17 + 10, none⟩ (.int .i64 (add q.vy (mul b (mul j y))))).setCell ⟨g, k * 17 + 11, none⟩ (.int .i64 (add q.vz (mul c (mul j y))))) g n (upd B1 k (moreV (B1 k) a b c (mul j y))) ∧ Only [g] w2 (((wr3.setCell ⟨g, k * 17 + 9, none⟩ (.int .i64 (add q.vx (mul a (mul j y))))).setCell ⟨g, k * 17 + 10, none⟩ (.int .i64 (add q.vy (mul b (mul j y))))).setCell ⟨g, k * 17 + 11, none⟩ (.int .i64 (add q.vz (mul c (mul j y)))))) := by
            refine ⟨?_, (((Only.of_kept K7.out).setCell (p := ⟨g, k * 17 + 9, none⟩) (Or.inl (by simp)) _).setCell (p := ⟨g, k * 17 + 10, none⟩) (Or.inl (by simp)) _).setCell (p := ⟨g, k * 17 + 11, none⟩) (Or.inl (by simp)) _⟩
            have h1 := (HOW.out.only (Only.of_kept (D := []) K7.out) (by simp)).putSp HI.out.2.1 (add q.vx (mul a (mul j y))) (add q.vy (mul b (mul j y))) (add q.vz (mul c (mul j y)))
            rw [HQ.out] at h1 ⊢
            exact h1
          clear e6 e7 e8 f6 f7 f8 K7 hHr5 hHr3
          go_wp2_with fail
          refine bodyPost_end (results_none rfl _ _ _) rfl ?_
          refine ⟨rfl, ?_, ?_⟩
          · have e1 : giveX B i k x y a b c j = upd B1 k (moreV (B1 k) a b c (mul j y)) := by rw [HB1.out.1]; rfl
            rw [e1]; exact HFN.out.1
          · exact ((H0.out.2.2.2.2.mono (by simp)).trans HB1.out.2).trans HFN.out.2
      · rw [if_pos (by rfl)]
        simp only [List.getElem_toArray, List.getElem_cons_succ, List.getElem_cons_zero]
        go_simp
        (go_at_call 21; refine (refMul_calls _ _ _).mono ?_; rintro e wq4 ⟨rfl, hq⟩; subst hq)
        try go_wp2_with fail
        refine hK.out _ _ ?_ (fun hH4 => ?_)
        · (try dsimp only); exact HK.out _ (Only.of_kept (Kept.refl w2).drew)
        clear hK K hH0
        try simp only [Act.put, List.setIfInBounds_toArray, List.set_cons_zero, List.set_cons_succ, List.getElem_toArray, List.getElem_cons_succ, List.getElem_cons_zero]
        refine wpAnyH_ready (rs := [6, 11]) (by kernel_rfl) (by simp) ?_
        refine AllReadyH.cons rfl (fun K hK => ?_) (AllReadyH.cons rfl (fun K hK => ?_) AllReadyH.nil)
        · rw [if_pos (by rfl)]
          obtain ⟨l0, l1, l2⟩ := HLD.out _ (Kept.refl w2).drew
          simp only [List.getElem_toArray, List.getElem_cons_succ, List.getElem_cons_zero]
          go_simp
          clear l0 l1 l2
          refine hK.out _ _ ?_ (fun hH5 => ?_)
          · (try dsimp only); exact HK.out _ (Only.of_kept (Kept.refl w2).drew)
          clear hK K hH4
          try simp only [Act.put, List.setIfInBounds_toArray, List.set_cons_zero, List.set_cons_succ, List.getElem_toArray, List.getElem_cons_succ, List.getElem_cons_zero]
          refine wpAnyH_ready (rs := [11]) (by kernel_rfl) (by simp) ?_
          refine AllReadyH.cons rfl (fun K hK => ?_) AllReadyH.nil
          rw [if_pos (by rfl)]
          simp only [List.getElem_toArray, List.getElem_cons_succ, List.getElem_cons_zero]
          go_simp
          (go_at_call 31; refine (refTimes_calls _ _ _ _ _).mono ?_; rintro e wq6 ⟨rfl, kq6⟩)
          try go_wp2_with fail
          refine hK.out _ _ ?_ (fun hH6 => ?_)
          · (try dsimp only); exact HK.out _ (Only.of_kept ((Kept.refl w2).drew.trans kq6))
          clear hK K hH5
          try simp only [Act.put, List.setIfInBounds_toArray, List.set_cons_zero, List.set_cons_succ, List.getElem_toArray, List.getElem_cons_succ, List.getElem_cons_zero]
          as_aux_lemma =>
            refine wpAnyH_ready (rs := [12]) (by kernel_rfl) (by simp) ?_
            refine AllReadyH.cons rfl (fun K hK => ?_) AllReadyH.nil
            rw [if_pos (by rfl)]
            simp only [List.getElem_toArray, List.getElem_cons_succ, List.getElem_cons_zero]
            go_simp
            (go_at_call 27; refine (refPlus_calls _ _ _ _ _ _ _).mono ?_; rintro e wr3 ⟨rfl, kr3⟩)
            try go_wp2_with fail
            refine hK.out _ _ ?_ (fun hHr3 => ?_)
            · (try dsimp only); exact HK.out _ (Only.of_kept (((Kept.refl w2).drew.trans kq6).trans kr3))
            clear hK K hH6
            try simp only [Act.put, List.setIfInBounds_toArray, List.set_cons_zero, List.set_cons_succ, List.getElem_toArray, List.getElem_cons_succ, List.getElem_cons_zero]
            have K7 : Hid (Kept w2 wr3) := ((Kept.refl w2).drew.trans kq6).trans kr3
            clear kr3
            obtain ⟨e6, e7, e8⟩ := HLD.out _ K7.out
            have f6 := kept_frozen K7.out (HOW.out.free (k * 17 + 9)); have f7 := kept_frozen K7.out (HOW.out.free (k * 17 + 10)); have f8 := kept_frozen K7.out (HOW.out.free (k * 17 + 11))
            refine wpAnyH_take (i := 13) (v := ?_) rfl (by kernel_rfl) (by kernel_rfl) (by kernel_rfl) (fun _ _ _ h => h) (Or.inl ⟨by kernel_rfl, ?_⟩) (by assumption) ?_
            rotate_left
            · intro w'' hSw; (try dsimp only at hSw); simp only [List.getElem_toArray, List.getElem_cons_succ, List.getElem_cons_zero]; (go_simp <;> with_reducible rfl)
            try simp only [Act.put, List.setIfInBounds_toArray, List.set_cons_zero, List.set_cons_succ, List.getElem_toArray, List.getElem_cons_succ, List.getElem_cons_zero]
            refine wpAnyH_take (i := 14) (v := ?_) rfl (by kernel_rfl) (by kernel_rfl) (by kernel_rfl) (fun _ _ _ h => h) (Or.inl ⟨by kernel_rfl, ?_⟩) (by assumption) ?_
            rotate_left
            · intro w'' hSw; (try dsimp only at hSw); simp only [List.getElem_toArray, List.getElem_cons_succ, List.getElem_cons_zero]; (go_simp <;> with_reducible rfl)
            try simp only [Act.put, List.setIfInBounds_toArray, List.set_cons_zero, List.set_cons_succ, List.getElem_toArray, List.getElem_cons_succ, List.getElem_cons_zero]
            refine wpAnyH_ready (rs := [15]) (by kernel_rfl) (by simp) ?_
            refine AllReadyH.cons rfl (fun K hK => ?_) AllReadyH.nil
            rw [if_pos (by rfl)]
            simp only [List.getElem_toArray, List.getElem_cons_succ, List.getElem_cons_zero]
            go_simp
            refine hK.out _ _ ?_ (fun hHr5 => ?_)
            · (try dsimp only); exact HK.out _ ((((Only.of_kept K7.out).setCell (p := ⟨g, k * 17 + 9, none⟩) (Or.inl (by simp)) _).setCell (p := ⟨g, k * 17 + 10, none⟩) (Or.inl (by simp)) _).setCell (p := ⟨g, k * 17 + 11, none⟩) (Or.inl (by simp)) _)
            clear hK K
            try simp only [Act.put, List.setIfInBounds_toArray, List.set_cons_zero, List.set_cons_succ, List.getElem_toArray, List.getElem_cons_succ, List.getElem_cons_zero]
            refine wpAnyH_done (by kernel_rfl) ?_ _
            have HFN : Hid (OwnB (((wr3.setCell ⟨g, k * 17 + 9, none⟩ (.int .i64 (add q.vx (mul a (mul j y))))).setCell ⟨g, k * 17 + 10, none⟩ (.int .i64 (add q.vy (mul b (mul j y))))).setCell ⟨g, k * 17 + 11, none⟩ (.int .i64 (add q.vz (mul c (mul j y))))) g n (upd B1 k (moreV (B1 k) a b c (mul j y))) ∧ Only [g] w2 (((wr3.setCell ⟨g, k * 17 + 9, none⟩ (.int .i64 (add q.vx (mul a (mul j y))))).setCell ⟨g, k * 17 + 10, none⟩ (.int .i64 (add q.vy (mul b (mul j y))))).setCell ⟨g, k * 17 + 11, none⟩ (.int .i64 (add q.vz (mul c (mul j y)))))) := by
              refine ⟨?_, (((Only.of_kept K7.out).setCell (p := ⟨g, k * 17 + 9, none⟩) (Or.inl (by simp)) _).setCell (p := ⟨g, k * 17 + 10, none⟩) (Or.inl (by simp)) _).setCell (p := ⟨g, k * 17 + 11, none⟩) (Or.inl (by simp)) _⟩
              have h1 := (HOW.out.only (Only.of_kept (D := []) K7.out) (by simp)).putSp HI.out.2.1 (add q.vx (mul a (mul j y))) (add q.vy (mul b (mul j y))) (add q.vz (mul c (mul j y)))
              rw [HQ.out] at h1 ⊢
              exact h1
            clear e6 e7 e8 f6 f7 f8 K7 hHr5 hHr3
            go_wp2_with fail
            refine bodyPost_end (results_none rfl _ _ _) rfl ?_
            refine ⟨rfl, ?_, ?_⟩
            · have e1 : giveX B i k x y a b c j = upd B1 k (moreV (B1 k) a b c (mul j y)) := by rw [HB1.out.1]; rfl
              rw [e1]; exact HFN.out.1
            · exact ((H0.out.2.2.2.2.mono (by simp)).trans HB1.out.2).trans HFN.out.2
        · rw [if_pos (by rfl)]
          simp only [List.getElem_toArray, List.getElem_cons_succ, List.getElem_cons_zero]
          go_simp
          (go_at_call 31; refine (refTimes_calls _ _ _ _ _).mono ?_; rintro e wq7 ⟨rfl, kq7⟩)
          try go_wp2_with fail
          refine hK.out _ _ ?_ (fun hH7 => ?_)
          · (try dsimp only); exact HK.out _ (Only.of_kept ((Kept.refl w2).drew.trans kq7))
          clear hK K hH4
          try simp only [Act.put, List.setIfInBounds_toArray, List.set_cons_zero, List.set_cons_succ, List.getElem_toArray, List.getElem_cons_succ, List.getElem_cons_zero]
          refine wpAnyH_ready (rs := [6]) (by kernel_rfl) (by simp) ?_
          refine AllReadyH.cons rfl (fun K hK => ?_) AllReadyH.nil
          rw [if_pos (by rfl)]
          obtain ⟨l0, l1, l2⟩ := HLD.out _ ((Kept.refl w2).drew.trans kq7)
          simp only [List.getElem_toArray, List.getElem_cons_succ, List.getElem_cons_zero]
          go_simp
          clear l0 l1 l2
          refine hK.out _ _ ?_ (fun hH8 => ?_)
          · (try dsimp only); exact HK.out _ (Only.of_kept ((Kept.refl w2).drew.trans kq7))
          clear hK K hH7
          try simp only [Act.put, List.setIfInBounds_toArray, List.set_cons_zero, List.set_cons_succ, List.getElem_toArray, List.getElem_cons_succ, List.getElem_cons_zero]
          as_aux_lemma =>
            refine wpAnyH_ready (rs := [12]) (by kernel_rfl) (by simp) ?_
            refine AllReadyH.cons rfl (fun K hK => ?_) AllReadyH.nil
            rw [if_pos (by rfl)]
            simp only [List.getElem_toArray, List.getElem_cons_succ, List.getElem_cons_zero]
            go_simp
            (go_at_call 27; refine (refPlus_calls _ _ _ _ _ _ _).mono ?_; rintro e wr3 ⟨rfl, kr3⟩)
            try go_wp2_with fail
            refine hK.out _ _ ?_ (fun hHr3 => ?_)
            · (try dsimp only); exact HK.out _ (Only.of_kept (((Kept.refl w2).drew.trans kq7).trans kr3))
            clear hK K hH8
            try simp only [Act.put, List.setIfInBounds_toArray, List.set_cons_zero, List.set_cons_succ, List.getElem_toArray, List.getElem_cons_succ, List.getElem_cons_zero]
            have K7 : Hid (Kept w2 wr3) := ((Kept.refl w2).drew.trans kq7).trans kr3
            clear kr3
            obtain ⟨e6, e7, e8⟩ := HLD.out _ K7.out
            have f6 := kept_frozen K7.out (HOW.out.free (k * 17 + 9)); have f7 := kept_frozen K7.out (HOW.out.free (k * 17 + 10)); have f8 := kept_frozen K7.out (HOW.out.free (k * 17 + 11))
            refine wpAnyH_take (i := 13) (v := ?_) rfl (by kernel_rfl) (by kernel_rfl) (by kernel_rfl) (fun _ _ _ h => h) (Or.inl ⟨by kernel_rfl, ?_⟩) (by assumption) ?_
            rotate_left
            · intro w'' hSw; (try dsimp only at hSw); simp only [List.getElem_toArray, List.getElem_cons_succ, List.getElem_cons_zero]; (go_simp <;> with_reducible rfl)
            try simp only [Act.put, List.setIfInBounds_toArray, List.set_cons_zero, List.set_cons_succ, List.getElem_toArray, List.getElem_cons_succ, List.getElem_cons_zero]
            refine wpAnyH_take (i := 14) (v := ?_) rfl (by kernel_rfl) (by kernel_rfl) (by kernel_rfl) (fun _ _ _ h => h) (Or.inl ⟨by kernel_rfl, ?_⟩) (by assumption) ?_
            rotate_left
            · intro w'' hSw; (try dsimp only at hSw); simp only [List.getElem_toArray, List.getElem_cons_succ, List.getElem_cons_zero]; (go_simp <;> with_reducible rfl)
            try simp only [Act.put, List.setIfInBounds_toArray, List.set_cons_zero, List.set_cons_succ, List.getElem_toArray, List.getElem_cons_succ, List.getElem_cons_zero]
            refine wpAnyH_ready (rs := [15]) (by kernel_rfl) (by simp) ?_
            refine AllReadyH.cons rfl (fun K hK => ?_) AllReadyH.nil
            rw [if_pos (by rfl)]
            simp only [List.getElem_toArray, List.getElem_cons_succ, List.getElem_cons_zero]
            go_simp
            refine hK.out _ _ ?_ (fun hHr5 => ?_)
            · (try dsimp only); exact HK.out _ ((((Only.of_kept K7.out).setCell (p := ⟨g, k * 17 + 9, none⟩) (Or.inl (by simp)) _).setCell (p := ⟨g, k * 17 + 10, none⟩) (Or.inl (by simp)) _).setCell (p := ⟨g, k * 17 + 11, none⟩) (Or.inl (by simp)) _)
            clear hK K
            try simp only [Act.put, List.setIfInBounds_toArray, List.set_cons_zero, List.set_cons_succ, List.getElem_toArray, List.getElem_cons_succ, List.getElem_cons_zero]
            refine wpAnyH_done (by kernel_rfl) ?_ _
            have HFN : Hid (OwnB (((wr3.setCell ⟨g, k * 17 + 9, none⟩ (.int .i64 (add q.vx (mul a (mul j y))))).setCell ⟨g, k * 17 + 10, none⟩ (.int .i64 (add q.vy (mul b (mul j y))))).setCell ⟨g, k * 17 + 11, none⟩ (.int .i64 (add q.vz (mul c (mul j y))))) g n (upd B1 k (moreV (B1 k) a b c (mul j y))) ∧ Only [g] w2 (((wr3.setCell ⟨g, k * 17 + 9, none⟩ (.int .i64 (add q.vx (mul a (mul j y))))).setCell ⟨g, k * 17 + 10, none⟩ (.int .i64 (add q.vy (mul b (mul j y))))).setCell ⟨g, k * 17 + 11, none⟩ (.int .i64 (add q.vz (mul c (mul j y)))))) := by
              refine ⟨?_, (((Only.of_kept K7.out).setCell (p := ⟨g, k * 17 + 9, none⟩) (Or.inl (by simp)) _).setCell (p := ⟨g, k * 17 + 10, none⟩) (Or.inl (by simp)) _).setCell (p := ⟨g, k * 17 + 11, none⟩) (Or.inl (by simp)) _⟩
              have h1 := (HOW.out.only (Only.of_kept (D := []) K7.out) (by simp)).putSp HI.out.2.1 (add q.vx (mul a (mul j y))) (add q.vy (mul b (mul j y))) (add q.vz (mul c (mul j y)))
              rw [HQ.out] at h1 ⊢
              exact h1
            clear e6 e7 e8 f6 f7 f8 K7 hHr5 hHr3
            go_wp2_with fail
            refine bodyPost_end (results_none rfl _ _ _) rfl ?_
            refine ⟨rfl, ?_, ?_⟩
            · have e1 : giveX B i k x y a b c j = upd B1 k (moreV (B1 k) a b c (mul j y)) := by rw [HB1.out.1]; rfl
              rw [e1]; exact HFN.out.1
            · exact ((H0.out.2.2.2.2.mono (by simp)).trans HB1.out.2).trans HFN.out.2
end Go.Proofs.Ytbfkloclmlnahaa
