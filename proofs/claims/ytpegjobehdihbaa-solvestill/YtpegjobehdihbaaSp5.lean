/- gyrekeep.SolveStill: whatever the bodies, the touches and the law's numbers. -/
import Derived.Test.YtpegjobehdihbaaSp4
import Derived.Deep.CutRange
import Derived.Deep.CutBlock
namespace Go.Proofs.Ytpegjobehdihbaa
open Go.ChangeShapes Go.WideShapes Go.ChangeAt Go.RowKit
set_option linter.unusedVariables false
set_option linter.unusedSimpArgs false

set_option maxRecDepth 100000 in
set_option maxHeartbeats 8000000 in
theorem solveStill_calls (a b : Option Addr) (n c m d : Nat) (B : Nat → Bd) (T : Nat → Tc) (x y z : Int) (w : World) (h : BodiesAt w a n B) (hs : SlArg a n c) (ht : TouchesAt w b m T) :
    Calls Try.prog 3 #[.slice a n c, .slice b m d, .int .i64 x, .int .i64 y, .int .i64 z] w fun e w' => e = .returned (.bool true) ∧ Only [] w w' := by
  have HB : Hid (BodiesAt w a n B ∧ SlArg a n c ∧ TouchesAt w b m T) := ⟨h, hs, ht⟩
  clear h hs ht
  by_cases hn : n ≤ 20
  · have t0 : decide ((20 : Int) < (n : Int)) = false := by simp; omega
    by_cases hm : m ≤ 40
    · have t1 : decide ((40 : Int) < (m : Int)) = false := by simp; omega
      have HN : Hid (n ≤ 20 ∧ m ≤ 40) := ⟨hn, hm⟩
      clear hn hm
      go_enter Try.func3, Try.ntmps3
      go_wp2_with fail
      refine (solved_calls w).mono ?_
      rintro e w1 ⟨rfl, o1⟩
      have HO1 : Hid (Only [] w w1) := o1
      clear o1 t0 t1
      go_upto_region 5 with fail
      go_cut [11] from 28 to 30 (fun s11 wc => ∃ a1 g c1, s11 = .slice a1 n c1 ∧ RW w1 a1 g n B wc ∧ SlArg a1 n c1)
      case first =>
        cases a with
        | none =>
          obtain ⟨rfl, rfl⟩ := HB.out.2.1 rfl
          go_wp2_with fail
          go_meet
          case rel => exact ⟨_, w1.heap.size, _, rfl, ⟨Or.inl rfl, (Only.refl [] w1).alloc _, Nat.le_refl _⟩, fun e => by cases e⟩
        | some ad =>
          obtain ⟨i2, hi0, hz0, hz1, hz2⟩ := info_parts' bodyInfo
          have hcell := rowsL_all (HB.out.1.only (HO1.out.alloc (.cells #[] 30)))
          have hn := HN.out.1
          have hown : (w1.alloc (.cells #[] 30)).ownsRow w1.heap.size 30 17 (.slice (some ⟨w1.heap.size, 0, none⟩) 0 0) 0 [] := ⟨rfl, Or.inr ⟨w1.heap.size, 0, #[], rfl, Nat.le_refl _, (MapKept.heap_alloc w1 _).1, by omega, by unfold maxLen; omega, rfl, rfl⟩⟩
          go_wp2_with (first | (at_builtin; refine wpList_append_own_at _ rfl _ _ 22 rfl w1.heap.size 30 i2 (.agg #[.int .i64 0, .int .i64 0, .int .i64 0, .int .i64 0, .int .i64 0, .int .i64 0, .int .i64 0, .int .i64 0, .int .i64 0, .int .i64 0, .int .i64 0, .int .i64 0, .int .i64 0, .int .i64 0, .int .i64 0, .int .i64 0, .int .i64 0]) 17 136 Try.underlying22 hi0 hz0 hz1 hz2 rfl (by decide) (.slice (some ⟨w1.heap.size, 0, none⟩) 0 0) 0 [] rfl hown ad n c (rowsL B n) rfl (rowsL_len B n) hcell (rowsL_one B n) (by unfold maxLen; omega) (by omega) (by simp) ?_; intro v' w5 hown hgrow hnil hloc; simp only [Nat.zero_add, List.nil_append] at hown; have H5 : Hid (w5.ownsRow w1.heap.size 30 17 v' n (rowsL B n) ∧ Only [] w1 w5) := ⟨hown, ((Only.refl [] w1).alloc _).grown hgrow (fun k hk => by simp [Value.ownBlock] at hk; exact Or.inr (by omega))⟩; clear hown hgrow hnil hloc hcell))
          obtain ⟨a', g', c', rfl, hS, hg, hsl⟩ := OwnS.of_row' H5.out.1
          have H6 : Hid (∃ g, RW w1 a' g n B w5) := by
            by_cases h0 : n = 0
            · exact ⟨w1.heap.size, Or.inl h0, H5.out.2, Nat.le_refl _⟩
            · exact ⟨g', hS, H5.out.2, hg h0⟩
          have HSL : Hid (SlArg a' n c') := hsl
          clear hS hg H5 hsl
          go_wp2_with fail
          go_meet
          case rel => exact ⟨a', H6.out.choose, c', rfl, H6.out.choose_spec, HSL.out⟩
      case rest =>
        obtain ⟨a1, g, c1, rfl, hrw, hsl⟩ := hcut
        have H1 : Hid (RW w1 a1 g n B wc) := hrw
        have HSL : Hid (SlArg a1 n c1) := hsl
        clear hrw hsl
        go_wp2_with fail
        go_loopg [12] n (fun k idx wr => ∃ j : Nat, idx = .int .i64 (j : Int) ∧ Hid (j ≤ n ∧ k = n - j) ∧ Hid (RW w1 a1 g n (fixTo B j) wr))
        case atStart => exact ⟨0, rfl, ⟨by omega, rfl⟩, by rw [fixTo_zero]; exact H1⟩
        case round =>
          clear H1
          obtain ⟨i, rfl, H2, HP⟩ := hrel
          have hn := HN.out.1
          by_cases hi : i < n
          · skip
            as_aux_lemma =>
              have hil : (i : Int) < (n : Int) := by omega
              obtain ⟨ha1, hO⟩ := HP.out.there hi
              subst ha1
              have c0 := hO.cell hi (show 0 < 17 by omega)
              have f0 := hO.free (i * 17)
              simp only [bc, Nat.add_zero] at c0
              go_upto_region 10 with fail
              obtain ⟨D1, hD1⟩ : ∃ D1, D1 = upd (fixTo B i) i (idX (fixTo B i i) ((i : Int) + 1)) := ⟨_, rfl⟩
              have H3 : Hid (RW w1 (some ⟨g, 0, none⟩) g n D1 (wr.setCell ⟨g, i * 17, none⟩ (.int .i64 ((i : Int) + 1)))) := by
                rw [hD1]; exact HP.out.turn rfl (hO.putId hi _) ((Only.refl [g] wr).setCell (p := ⟨g, i * 17, none⟩) (Or.inl (by simp)) _)
              have HD1 : Hid (D1 = upd (fixTo B i) i (idX (fixTo B i i) ((i : Int) + 1))) := hD1
              clear c0 f0 hO hD1 HP
              revert H3
              generalize World.setCell wr _ _ = w2
              intro H3
              obtain ⟨q, hq⟩ : ∃ q, q = D1 i := ⟨_, rfl⟩
              have HQ : Hid (q = D1 i) := hq
              have c9 := (H3.out.there hi).2.cell hi (show 9 < 17 by omega); have c10 := (H3.out.there hi).2.cell hi (show 10 < 17 by omega); have c11 := (H3.out.there hi).2.cell hi (show 11 < 17 by omega)
              rw [← hq] at c9 c10 c11
              simp only [bc] at c9 c10 c11
              clear hq
              go_wp2_with fail
              refine (clamp_calls _ _ _ _ _ (by decide)).mono ?_
              rintro e w3 ⟨rfl, k3⟩
              simp only [bound_speed]
              have e9 := kept_cell k3 c9; have e10 := kept_cell k3 c10; have e11 := kept_cell k3 c11
              have f9 := kept_frozen k3 ((H3.out.there hi).2.free (i * 17 + 9)); have f10 := kept_frozen k3 ((H3.out.there hi).2.free (i * 17 + 10)); have f11 := kept_frozen k3 ((H3.out.there hi).2.free (i * 17 + 11))
              clear c9 c10 c11
              go_upto_region 11 with fail
              obtain ⟨D2, hD2⟩ : ∃ D2, D2 = upd D1 i (spX q (cl 6553600 q.vx) (cl 6553600 q.vy) (cl 6553600 q.vz)) := ⟨_, rfl⟩
              have HD2 : Hid (D2 = upd D1 i (spX q (cl 6553600 q.vx) (cl 6553600 q.vy) (cl 6553600 q.vz))) := hD2
              have H4 : Hid (RW w1 (some ⟨g, 0, none⟩) g n D2 (((w3.setCell ⟨g, i * 17 + 9, none⟩ (.int .i64 (cl 6553600 q.vx))).setCell ⟨g, i * 17 + 10, none⟩ (.int .i64 (cl 6553600 q.vy))).setCell ⟨g, i * 17 + 11, none⟩ (.int .i64 (cl 6553600 q.vz)))) := by
                have h1 := ((H3.out.there hi).2.only (Only.of_kept (D := []) k3) (by simp)).putSp hi (cl 6553600 q.vx) (cl 6553600 q.vy) (cl 6553600 q.vz)
                rw [← HQ.out, ← hD2] at h1
                exact H3.out.turn rfl h1 ((((Only.of_kept k3).setCell (p := ⟨g, i * 17 + 9, none⟩) (Or.inl (by simp)) _).setCell (p := ⟨g, i * 17 + 10, none⟩) (Or.inl (by simp)) _).setCell (p := ⟨g, i * 17 + 11, none⟩) (Or.inl (by simp)) _)
              clear e9 e10 e11 f9 f10 f11 k3 hD2 H3
              revert H4
              generalize World.setCell (World.setCell (World.setCell w3 _ _) _ _) _ _ = w4
              intro H4
              obtain ⟨r, hr⟩ : ∃ r, r = D2 i := ⟨_, rfl⟩
              have HR : Hid (r = D2 i) := hr
              have c6 := (H4.out.there hi).2.cell hi (show 6 < 17 by omega); have c7 := (H4.out.there hi).2.cell hi (show 7 < 17 by omega); have c8 := (H4.out.there hi).2.cell hi (show 8 < 17 by omega)
              rw [← hr] at c6 c7 c8
              simp only [bc] at c6 c7 c8
              clear hr
              go_wp2_with fail
              refine (clamp_calls _ _ _ _ _ (by decide)).mono ?_
              rintro e w5 ⟨rfl, k5⟩
              simp only [bound_place]
              have e6 := kept_cell k5 c6; have e7 := kept_cell k5 c7; have e8 := kept_cell k5 c8
              have f6 := kept_frozen k5 ((H4.out.there hi).2.free (i * 17 + 6)); have f7 := kept_frozen k5 ((H4.out.there hi).2.free (i * 17 + 7)); have f8 := kept_frozen k5 ((H4.out.there hi).2.free (i * 17 + 8))
              clear c6 c7 c8
              have H5 : Hid (RW w1 (some ⟨g, 0, none⟩) g n (fixTo B (i + 1)) (((w5.setCell ⟨g, i * 17 + 6, none⟩ (.int .i64 (cl 65536000 r.ax))).setCell ⟨g, i * 17 + 7, none⟩ (.int .i64 (cl 65536000 r.ay))).setCell ⟨g, i * 17 + 8, none⟩ (.int .i64 (cl 65536000 r.az)))) := by
                have h1 := ((H4.out.there hi).2.only (Only.of_kept (D := []) k5) (by simp)).putAt hi (cl 65536000 r.ax) (cl 65536000 r.ay) (cl 65536000 r.az)
                rw [← HR.out] at h1
                have e1 : fixTo B (i + 1) = upd D2 i (atX r (cl 65536000 r.ax) (cl 65536000 r.ay) (cl 65536000 r.az)) := by
                  have er : r = spX q (cl 6553600 q.vx) (cl 6553600 q.vy) (cl 6553600 q.vz) := by rw [HR.out, HD2.out, upd_same]
                  have eq : q = idX (B i) ((i : Int) + 1) := by rw [HQ.out, HD1.out, upd_same, fixTo_at]
                  rw [fixTo_succ, HD2.out, HD1.out, upd_upd, upd_upd, er, eq]
                  rfl
                rw [e1]
                exact H4.out.turn rfl h1 ((((Only.of_kept k5).setCell (p := ⟨g, i * 17 + 6, none⟩) (Or.inl (by simp)) _).setCell (p := ⟨g, i * 17 + 7, none⟩) (Or.inl (by simp)) _).setCell (p := ⟨g, i * 17 + 8, none⟩) (Or.inl (by simp)) _)
              clear k5 H4
              go_wp2_with fail
              go_roundg (n - (i + 1))
              case measure => have := H2.out.2; omega
              case rel => exact ⟨i + 1, by go_num, ⟨by omega, rfl⟩, H5⟩
          · have hil : ¬ (i : Int) < (n : Int) := by omega
            obtain rfl : i = n := by have := H2.out.1; omega
            clear hi hil
            obtain ⟨L, hL⟩ : ∃ L, L = fixTo B i := ⟨_, rfl⟩
            rw [← hL] at HP
            have HL : Hid (L = fixTo B i) := hL
            clear hL
            have hmm := @run_makeMap Try.prog
            go_wp2_with fail
            clear hmm
            have H3 : Hid ((RW w1 a1 g i L (wr.alloc (.map #[] 0)) ∧ TMap (wr.alloc (.map #[] 0)) wr.heap.size (2 * 0) (idsT T 0)) ∧ w1.heap.size ≤ wr.heap.size ∧ (∀ q, q < i → wr.heap.size ≠ g)) :=
              ⟨⟨HP.out.keep ((Only.refl [] wr).alloc _), TMap.made wr⟩, HP.out.only.size, fun q hq => by have := (HP.out.there hq).2.lt; omega⟩
            clear HP
            revert H3
            generalize wr.heap.size = mm
            generalize World.alloc wr _ = wm
            intro H3
            go_loopg [14] m (fun k idx wr => ∃ j : Nat, idx = .int .i64 (j : Int) ∧ Hid (j ≤ m ∧ k = m - j) ∧ Hid (RW w1 a1 g i L wr ∧ TMap wr mm (2 * j) (idsT T j)))
            case atStart => exact ⟨0, rfl, ⟨by omega, rfl⟩, H3.out.1⟩
            case round =>
              obtain ⟨j, rfl, H4, HP⟩ := hrel
              have HMM : Hid (w1.heap.size ≤ mm ∧ ∀ q, q < i → mm ≠ g) := H3.out.2
              clear H3
              have hm := HN.out.2
              by_cases hj : j < m
              · skip
                as_aux_lemma =>
                  have hjl : (j : Int) < (m : Int) := by omega
                  obtain ⟨i1, i2, gt, ot, rfl, c0, c1', c2, c3, c4, c5⟩ := HB.out.2.2 j hj
                  have hlt := World.block_lt_of_cell? _ _ c0
                  have hgt : gt ≠ mm := by have h1 := HMM.out.1; have h2 := HO1.out.size; have h3 : gt < w.heap.size := hlt; omega
                  obtain ⟨v0, st, wu1, wu2, e1, u1, e2, u2, tm1⟩ := (HP.out.2.only ((Only.refl [] wr).drew) (by simp)).store (by unfold maxLen; omega) i1
                  obtain ⟨v0', st', wu3, wu4, e3, u3, e4, u4, tm2⟩ := tm1.store (by unfold maxLen; omega) i2
                  have d0 := cell_old1 (HO1.out.trans HP.out.1.only) c0
                  have d1 := cell_old1 (HO1.out.trans HP.out.1.only) c1'
                  have HK : Hid (∀ w', Only [mm] wr w' → Only [mm] wr w' ∧ w'.cell? ⟨gt, ot + j * 6, none⟩ = some (.int .i64 ((T j).a)) ∧ w'.cell? ⟨gt, ot + j * 6 + 1, none⟩ = some (.int .i64 ((T j).b))) := fun w' o => ⟨o, cell_only o d0 (by simp only [List.mem_singleton]; exact hgt), cell_only o d1 (by simp only [List.mem_singleton]; exact hgt)⟩
                  have HU : Hid (Only [mm] wr wu1 ∧ Only [mm] wr wu2 ∧ Only [mm] wr wu3 ∧ Only [mm] wr wu4) := ⟨(Only.refl [mm] wr).drew.trans u1, (Only.refl [mm] wr).drew.trans u2, ((Only.refl [mm] wr).drew.trans u2).trans u3, ((Only.refl [mm] wr).drew.trans u2).trans u4⟩
                  have H5 : Hid (RW w1 a1 g i L wu4 ∧ TMap wu4 mm (2 * (j + 1)) (idsT T (j + 1))) :=
                    ⟨⟨HP.out.1.own.only' HU.out.2.2.2 (fun q hq => by simp only [List.mem_singleton]; exact fun e => HMM.out.2 q hq e.symm), HP.out.1.only.then HU.out.2.2.2 (fun b hb => by simp only [List.mem_singleton] at hb; subst hb; exact Or.inr HMM.out.1), HP.out.1.new⟩, tm2⟩
                  clear c0 c1' c2 c3 c4 c5 d0 d1 u1 u2 u3 u4 tm1 tm2 i1 i2 hlt HP
                  go_upto_region 16 with fail
                  refine wp_region_held_drew (S := (fun w' => Only [mm] wr w' ∧ w'.cell? ⟨gt, ot + j * 6, none⟩ = some (.int .i64 ((T j).a)) ∧ w'.cell? ⟨gt, ot + j * 6 + 1, none⟩ = some (.int .i64 ((T j).b)))) (by kernel_rfl) ?_ (fun hHeld1 => ?_)
                  · (try dsimp only); exact HK.out _ (Only.refl _ _).drew
                  refine tkW 0 rfl ?_; refine tkW 1 rfl ?_; refine tkW 2 rfl ?_; refine tkW 3 rfl ?_
                  try simp only [Act.put, List.setIfInBounds_toArray, List.set_cons_zero, List.set_cons_succ, List.getElem_toArray, List.getElem_cons_succ, List.getElem_cons_zero]
                  refine tkW 4 rfl ?_; refine tkW 5 rfl ?_; refine tkW 6 rfl ?_; refine tkW 7 rfl ?_
                  try simp only [Act.put, List.setIfInBounds_toArray, List.set_cons_zero, List.set_cons_succ, List.getElem_toArray, List.getElem_cons_succ, List.getElem_cons_zero]
                  refine tkW 8 rfl ?_; refine tkW 9 rfl ?_; refine tkW 10 rfl ?_; refine tkW 11 rfl ?_
                  try simp only [Act.put, List.setIfInBounds_toArray, List.set_cons_zero, List.set_cons_succ, List.getElem_toArray, List.getElem_cons_succ, List.getElem_cons_zero]
                  refine wpAnyH_ready (rs := [12]) (by kernel_rfl) (by simp) ?_
                  refine AllReadyH.cons rfl (fun K hK => ?_) AllReadyH.nil
                  first | (with_reducible refine iteYes ?hcx ?htx; case hcx => kernel_rfl) | rw [if_pos (by rfl)]
                  simp only [List.getElem_toArray, List.getElem_cons_succ, List.getElem_cons_zero]
                  go_simp
                  skip
                  try go_wp2_with fail
                  refine hK.out _ _ ?_ (fun hHeld2 => ?_)
                  · (try dsimp only); exact HK.out _ HU.out.1
                  clear hK K hHeld1
                  try simp only [Act.put, List.setIfInBounds_toArray, List.set_cons_zero, List.set_cons_succ, List.getElem_toArray, List.getElem_cons_succ, List.getElem_cons_zero]
                  refine tkW 13 rfl ?_
                  try simp only [Act.put, List.setIfInBounds_toArray, List.set_cons_zero, List.set_cons_succ, List.getElem_toArray, List.getElem_cons_succ, List.getElem_cons_zero]
                  refine wpAnyH_ready (rs := [14]) (by kernel_rfl) (by simp) ?_
                  refine AllReadyH.cons rfl (fun K hK => ?_) AllReadyH.nil
                  first | (with_reducible refine iteYes ?hcx ?htx; case hcx => kernel_rfl) | rw [if_pos (by rfl)]
                  simp only [List.getElem_toArray, List.getElem_cons_succ, List.getElem_cons_zero]
                  go_simp
                  skip
                  try go_wp2_with fail
                  refine hK.out _ _ ?_ (fun hHeld3 => ?_)
                  · (try dsimp only); exact HK.out _ HU.out.2.1
                  clear hK K hHeld2
                  try simp only [Act.put, List.setIfInBounds_toArray, List.set_cons_zero, List.set_cons_succ, List.getElem_toArray, List.getElem_cons_succ, List.getElem_cons_zero]
                  refine wpAnyH_ready (rs := [15]) (by kernel_rfl) (by simp) ?_
                  refine AllReadyH.cons rfl (fun K hK => ?_) AllReadyH.nil
                  first | (with_reducible refine iteYes ?hcx ?htx; case hcx => kernel_rfl) | rw [if_pos (by rfl)]
                  simp only [List.getElem_toArray, List.getElem_cons_succ, List.getElem_cons_zero]
                  go_simp
                  skip
                  try go_wp2_with fail
                  refine hK.out _ _ ?_ (fun hHeld4 => ?_)
                  · (try dsimp only); exact HK.out _ HU.out.2.2.1
                  clear hK K hHeld3
                  try simp only [Act.put, List.setIfInBounds_toArray, List.set_cons_zero, List.set_cons_succ, List.getElem_toArray, List.getElem_cons_succ, List.getElem_cons_zero]
                  refine tkW 16 rfl ?_
                  try simp only [Act.put, List.setIfInBounds_toArray, List.set_cons_zero, List.set_cons_succ, List.getElem_toArray, List.getElem_cons_succ, List.getElem_cons_zero]
                  refine wpAnyH_ready (rs := [17]) (by kernel_rfl) (by simp) ?_
                  refine AllReadyH.cons rfl (fun K hK => ?_) AllReadyH.nil
                  first | (with_reducible refine iteYes ?hcx ?htx; case hcx => kernel_rfl) | rw [if_pos (by rfl)]
                  simp only [List.getElem_toArray, List.getElem_cons_succ, List.getElem_cons_zero]
                  go_simp
                  skip
                  try go_wp2_with fail
                  refine hK.out _ _ ?_ (fun hHeld5 => ?_)
                  · (try dsimp only); exact HK.out _ HU.out.2.2.2
                  clear hK K hHeld4
                  try simp only [Act.put, List.setIfInBounds_toArray, List.set_cons_zero, List.set_cons_succ, List.getElem_toArray, List.getElem_cons_succ, List.getElem_cons_zero]
                  refine wpAnyH_done (by kernel_rfl) ?_ _
                  clear HK e1 e2 e3 e4
                  go_wp2_with fail
                  go_roundg (m - (j + 1))
                  case measure => have := H4.out.2; omega
                  case rel => exact ⟨j + 1, by go_num, ⟨by omega, rfl⟩, H5⟩
              · have hjl : ¬ (j : Int) < (m : Int) := by omega
                obtain rfl : j = m := by have := H4.out.1; omega
                clear hj hjl
                as_aux_lemma =>
                  go_wp2_with fail
                  refine (lawK_calls x y z _).mono ?_
                  rintro e w5 ⟨bo, ru, ro, rfl, o5⟩
                  have H5 : Hid (RW w1 a1 g i L w5 ∧ TMap w5 mm (2 * j) (idsT T j)) := ⟨HP.out.1.keep o5, HP.out.2.only o5 (by simp)⟩
                  clear o5 HP
                  have hn := HN.out.1
                  have hal : Hid (Alone i L ∧ ∀ q, q < i → In64S (L q).id) := by
                    rw [HL.out]
                    refine ⟨fixTo_alone B i, fun q hq => ?_⟩
                    rw [fixTo_id B hq]
                    exact in64S_of (by omega) (by omega)
                  go_wp2_with fail
                  refine (speeds_calls a1 b i c1 j d L T bo ru ro w5 (by omega) (by omega) H5.out.1.own.bodies HSL.out (HB.out.2.2.only (HO1.out.trans H5.out.1.only)) hal.out.1 hal.out.2).mono ?_
                  rintro e w6 ⟨a6, c6, rfl, hb6, o6⟩
                  rw [speeds_same] at hb6
                  have H6 : Hid (RW w1 a1 g i L w6 ∧ TMap w6 mm (2 * j) (idsT T j) ∧ BodiesAt w6 a6 i (speedsT i L T j bo ru ro)) := ⟨H5.out.1.keep o6, H5.out.2.only o6 (by simp), hb6⟩
                  clear o6 hb6 H5
                  go_wp2_with fail
                  refine (places_calls a1 b i c1 j d L T w6 (by omega) (by omega) H6.out.1.own.bodies HSL.out (HB.out.2.2.only (HO1.out.trans H6.out.1.only)) hal.out.1 hal.out.2).mono ?_
                  rintro e w7 ⟨a7, c7, rfl, hb7, o7⟩
                  have H7 : Hid (BodiesAt w7 a1 i L ∧ TMap w7 mm (2 * j) (idsT T j) ∧ BodiesAt w7 a6 i (speedsT i L T j bo ru ro) ∧ BodiesAt w7 a7 i (placesX i L T j) ∧ Only [] w w7) := ⟨(H6.out.1.keep o7).own.bodies, H6.out.2.1.only o7 (by simp), H6.out.2.2.only o7, hb7, HO1.out.trans (H6.out.1.only.trans o7)⟩
                  clear o7 hb7 H6
                  go_upto_block 4 with fail
                  refine still_last i c1 c6 c7 (2 * j) mm a1 a6 a7 L (speedsT i L T j bo ru ro) (placesX i L T j) (idsT T j) w7 _ _ _ _ _ _ _ _ _ _ _ _ _ _ _ _ _ _ _ _ _ _ _ _ _ _ _ _ _ _ _ _ _ _ _ _ _ _ _ _ _ _ _ _ _ _ _ _ _ _ _ _ _ _ _ _ _ _ _ _ _ _ _ _ _ _ _ _ _ _ _ _ _ _ _ _ _ _ _ _ _ _ _ _ _ _ _ _ _ _ _ _ _ _ _ _ _ _ _ _ _ _ _ _ _ _ _ _ _ _ _ _ _ _ _ _ _ _ _ _ _ _ _ _ _ _ _ _ _ _ _ _ _ _ _ _ _ _ _ _ _ _ _ _ _ _ _ _ _ _ _ _ _ _ _ _ _ _ _ _ _ _ _ _ _ _ _ _ _ _ _ _ _ hn ⟨H7.out.1, H7.out.2.1, H7.out.2.2.1, H7.out.2.2.2.1⟩ hal.out.2 (fun p => still_sp L T i p j bo ru ro) (fun p => still_at L T i p j) (by rw [HL.out]; exact fun p hp => still_all B T j hp bo ru ro) ?_
                  intro u10 u17 u108 u109 u110 u111 u112 u113 u114 u115 u116 u117 u118 u119 u120 u121 u122 u123 u124 u125 u126 u127 u128 u129 u130 u131 u132 u133 u134 u135 u136 u137 u138 u139 u140 u141 u142 u143 u144 u145 u146 u147 u148 u149 u150 u151 u152 u153 u154 u155 u156 u157 u158 u159 u160 u161 u162 u163 u164 u165 u166 u167 u168 u169 u170 u171 u172 u173 u174 u175 wz ho
                  have HO : Hid (Only [] w7 wz) := ho
                  clear ho
                  go_wp2_with fail
                  go_ret
                  exact ⟨rfl, H7.out.2.2.2.2.trans HO.out⟩
    · have t1 : decide ((40 : Int) < (m : Int)) = true := by simp; omega
      go_enter Try.func3, Try.ntmps3
      go_wp2_with fail
      go_ret
      exact ⟨rfl, Only.refl _ _⟩
  · have t0 : decide ((20 : Int) < (n : Int)) = true := by simp; omega
    go_enter Try.func3, Try.ntmps3
    go_wp2_with fail
    go_ret
    exact ⟨rfl, Only.refl _ _⟩
end Go.Proofs.Ytpegjobehdihbaa
