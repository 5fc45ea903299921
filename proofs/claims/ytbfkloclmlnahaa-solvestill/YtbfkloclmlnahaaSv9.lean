/- gyreref.Places: whatever the bodies and the touches. -/
import Derived.Test.YtbfkloclmlnahaaSv8
namespace Go.Proofs.Ytbfkloclmlnahaa
open Go.ChangeShapes Go.WideShapes Go.ChangeAt Go.RowKit
set_option linter.unusedVariables false
set_option linter.unusedSimpArgs false

def AllAt (w : World) (g i : Nat) (q : Bd) : Prop := w.cell? ⟨g, i * 17, none⟩ = some (.int .i64 (q.id)) ∧ w.cell? ⟨g, i * 17 + 1, none⟩ = some (.int .i64 (q.ow)) ∧ w.cell? ⟨g, i * 17 + 2, none⟩ = some (.int .i64 (q.kd)) ∧ w.cell? ⟨g, i * 17 + 3, none⟩ = some (.int .i64 (q.sx)) ∧ w.cell? ⟨g, i * 17 + 4, none⟩ = some (.int .i64 (q.sy)) ∧ w.cell? ⟨g, i * 17 + 5, none⟩ = some (.int .i64 (q.sz)) ∧ w.cell? ⟨g, i * 17 + 6, none⟩ = some (.int .i64 (q.ax)) ∧ w.cell? ⟨g, i * 17 + 7, none⟩ = some (.int .i64 (q.ay)) ∧ w.cell? ⟨g, i * 17 + 8, none⟩ = some (.int .i64 (q.az)) ∧ w.cell? ⟨g, i * 17 + 9, none⟩ = some (.int .i64 (q.vx)) ∧ w.cell? ⟨g, i * 17 + 10, none⟩ = some (.int .i64 (q.vy)) ∧ w.cell? ⟨g, i * 17 + 11, none⟩ = some (.int .i64 (q.vz)) ∧ w.cell? ⟨g, i * 17 + 12, none⟩ = some (.int .i64 (q.px)) ∧ w.cell? ⟨g, i * 17 + 13, none⟩ = some (.int .i64 (q.py)) ∧ w.cell? ⟨g, i * 17 + 14, none⟩ = some (.int .i64 (q.pz)) ∧ w.cell? ⟨g, i * 17 + 15, none⟩ = some (.int .i64 (q.ms)) ∧ w.cell? ⟨g, i * 17 + 16, none⟩ = some (.int .i64 (q.tm))
theorem OwnB.all {w : World} {g n : Nat} {B : Nat → Bd} (h : OwnB w g n B) {i : Nat} (hi : i < n) {q : Bd} (hq : q = B i) : AllAt w g i q := by
  subst hq
  have c : ∀ k, k < 17 → w.cell? ⟨g, i * 17 + k, none⟩ = some (bc (B i) k) := fun k hk => h.cell hi hk
  exact ⟨c 0 (by omega), c 1 (by omega), c 2 (by omega), c 3 (by omega), c 4 (by omega), c 5 (by omega), c 6 (by omega), c 7 (by omega), c 8 (by omega), c 9 (by omega), c 10 (by omega), c 11 (by omega), c 12 (by omega), c 13 (by omega), c 14 (by omega), c 15 (by omega), c 16 (by omega)⟩
theorem AllAt.kept {w w' : World} {g i : Nat} {q : Bd} (h : AllAt w g i q) (k : Kept w w') : AllAt w' g i q := by
  obtain ⟨h0, h1, h2, h3, h4, h5, h6, h7, h8, h9, h10, h11, h12, h13, h14, h15, h16⟩ := h
  exact ⟨kept_cell k h0, kept_cell k h1, kept_cell k h2, kept_cell k h3, kept_cell k h4, kept_cell k h5, kept_cell k h6, kept_cell k h7, kept_cell k h8, kept_cell k h9, kept_cell k h10, kept_cell k h11, kept_cell k h12, kept_cell k h13, kept_cell k h14, kept_cell k h15, kept_cell k h16⟩
theorem RefArg (w : World) : w.heap.size ≤ w.heap.size := Nat.le_refl _
structure RW (w : World) (a : Option Addr) (g n : Nat) (C : Nat → Bd) (wr : World) : Prop where
  own : OwnS wr a g n C
  only : Only [] w wr
  new : w.heap.size ≤ g
theorem RW.keep {w : World} {a : Option Addr} {g n : Nat} {C : Nat → Bd} {wr w' : World} (h : RW w a g n C wr) (o : Only [] wr w') : RW w a g n C w' := ⟨h.own.only o (by simp), h.only.trans o, h.new⟩
theorem RW.turn {w : World} {a : Option Addr} {g n : Nat} {C D : Nat → Bd} {wr w' : World} (h : RW w a g n C wr) (ha : a = some ⟨g, 0, none⟩) (hO : OwnB w' g n D) (o : Only [g] wr w') : RW w a g n D w' :=
  ⟨Or.inr ⟨ha, hO⟩, h.only.then o (fun b hb => by simp only [List.mem_singleton] at hb; subst hb; exact Or.inr h.new), h.new⟩
theorem RW.there {w : World} {a : Option Addr} {g n : Nat} {C : Nat → Bd} {wr : World} (h : RW w a g n C wr) {i : Nat} (hi : i < n) : a = some ⟨g, 0, none⟩ ∧ OwnB wr g n C := by
  rcases h.own with q | q
  · omega
  · exact q
set_option maxRecDepth 100000 in
set_option maxHeartbeats 8000000 in
theorem refPlaces_calls (a b : Option Addr) (n c m d : Nat) (B : Nat → Bd) (T : Nat → Tc) (w : World) (hn : n ≤ 30) (hm : m ≤ 60) (h : BodiesAt w a n B) (hs : SlArg a n c) (ht : TouchesAt w b m T) :
    Calls Try.prog 72 #[.slice a n c, .slice b m d] w (PlacesPost n (placesX n B T m) w) := by
  have HB : Hid (TouchesAt w b m T ∧ n ≤ 30 ∧ m ≤ 60) := ⟨ht, hn, hm⟩
  have HS : Hid (BodiesAt w a n B ∧ SlArg a n c) := ⟨h, hs⟩
  clear h hs ht hn hm
  go_enter Try.func72, Try.ntmps72
  go_upto_region 1 with fail
  go_cut [5] from 14 to 16 (fun s5 wc => ∃ a1 g c1, s5 = .slice a1 n c1 ∧ RW w a1 g n B wc)
  case first =>
    cases a with
    | none =>
      obtain ⟨rfl, rfl⟩ := HS.out.2 rfl
      go_wp2_with fail
      go_meet
      case rel => exact ⟨_, w.heap.size, _, rfl, Or.inl rfl, (Only.refl [] w).alloc _, Nat.le_refl _⟩
    | some ad =>
      obtain ⟨i2, hi0, hz0, hz1, hz2⟩ := info_parts' bodyInfo
      have hcell := rowsL_all (HS.out.1.only ((Only.refl [] w).alloc (.cells #[] 83)))
      have hn := HB.out.2.1
      have hown : (w.alloc (.cells #[] 83)).ownsRow w.heap.size 83 17 (.slice (some ⟨w.heap.size, 0, none⟩) 0 0) 0 [] := ⟨rfl, Or.inr ⟨w.heap.size, 0, #[], rfl, Nat.le_refl _, (MapKept.heap_alloc w _).1, by omega, by unfold maxLen; omega, rfl, rfl⟩⟩
      go_wp2_with (first | (at_builtin; refine wpList_append_own_at _ rfl _ _ 70 rfl w.heap.size 83 i2 (.agg #[.int .i64 0, .int .i64 0, .int .i64 0, .int .i64 0, .int .i64 0, .int .i64 0, .int .i64 0, .int .i64 0, .int .i64 0, .int .i64 0, .int .i64 0, .int .i64 0, .int .i64 0, .int .i64 0, .int .i64 0, .int .i64 0, .int .i64 0]) 17 136 Try.underlying70 hi0 hz0 hz1 hz2 rfl (by decide) (.slice (some ⟨w.heap.size, 0, none⟩) 0 0) 0 [] rfl hown ad n c (rowsL B n) rfl (rowsL_len B n) hcell (rowsL_one B n) (by unfold maxLen; omega) (by omega) (by simp) ?_; intro v' w5 hown hgrow hnil hloc; simp only [Nat.zero_add, List.nil_append] at hown; have H5 : Hid (w5.ownsRow w.heap.size 83 17 v' n (rowsL B n) ∧ Only [] w w5) := ⟨hown, ((Only.refl [] w).alloc _).grown hgrow (fun k hk => by simp [Value.ownBlock] at hk; exact Or.inr (by omega))⟩; clear hown hgrow hnil hloc hcell))
      obtain ⟨a', g', c', rfl, hS, hg⟩ := OwnS.of_row H5.out.1
      have H6 : Hid (∃ g, RW w a' g n B w5) := by
        by_cases h0 : n = 0
        · exact ⟨w.heap.size, Or.inl h0, H5.out.2, Nat.le_refl _⟩
        · exact ⟨g', hS, H5.out.2, hg h0⟩
      clear hS hg H5
      go_wp2_with fail
      go_meet
      case rel => exact ⟨a', H6.out.choose, c', rfl, H6.out.choose_spec⟩
  case rest =>
    obtain ⟨a1, g, c1, rfl, hrw⟩ := hcut
    have H1 : Hid (RW w a1 g n B wc) := hrw
    clear hrw HS
    go_wp2_with fail
    go_loopg [19] m (fun k idx wr => ∃ j : Nat, idx = .int .i64 (j : Int) ∧ Hid (j ≤ m ∧ k = m - j) ∧ Hid (RW w a1 g n (placesX n B T j) wr))
    case atStart => exact ⟨0, rfl, ⟨by omega, rfl⟩, H1⟩
    case round =>
      obtain ⟨j, rfl, H2, HP⟩ := hrel
      have hm := HB.out.2.2
      have hn := HB.out.2.1
      by_cases hj : j < m
      · have hjl : (j : Int) < (m : Int) := by omega
        obtain ⟨i1, i2, gt, ot, rfl, c0, c1', c2, c3, c4, c5⟩ := (HB.out.1.only HP.out.only) j hj
        clear i1 i2
        obtain ⟨t, htj⟩ : ∃ t, t = T j := ⟨_, rfl⟩
        rw [← htj] at c0 c1' c2 c3 c4 c5
        have HT : Hid (t = T j) := htj
        obtain ⟨C, hC⟩ : ∃ C, C = placesX n B T j := ⟨_, rfl⟩
        rw [← hC] at HP
        have HC : Hid (C = placesX n B T j) := hC
        clear htj hC
        go_upto_region 5 with fail
        clear c0 c1' c2 c3 c4 c5
        have H3 : Hid (RW w a1 g n C (wr.alloc (.cells #[.int .i64 (t.a), .int .i64 (t.b), .int .i64 (t.way.x), .int .i64 (t.way.y), .int .i64 (t.way.z), .int .i64 (t.deep)] 86)) ∧ TouchAt (wr.alloc (.cells #[.int .i64 (t.a), .int .i64 (t.b), .int .i64 (t.way.x), .int .i64 (t.way.y), .int .i64 (t.way.z), .int .i64 (t.deep)] 86)) wr.heap.size t ∧ ∀ q, q < n → wr.heap.size ≠ g) := ⟨HP.out.keep ((Only.refl [] wr).alloc _), (MapKept.heap_alloc wr _).1, fun q hq => by have := (HP.out.there hq).2.lt; omega⟩
        revert H3
        generalize wr.heap.size = kt
        generalize World.alloc wr _ = w3
        intro H3
        have HK : Hid (∀ w', Kept w3 w' → Kept w3 w' ∧ w'.cell? ⟨kt, 0, none⟩ = some (.int .i64 (t.a)) ∧ w'.cell? ⟨kt, 1, none⟩ = some (.int .i64 (t.b))) := fun w' o => ⟨o, kept_cell o (H3.out.2.1.off 0), kept_cell o (H3.out.2.1.off 1)⟩
        refine wp_region_held_drew (S := (fun w' => Kept w3 w' ∧ w'.cell? ⟨kt, 0, none⟩ = some (.int .i64 (t.a)) ∧ w'.cell? ⟨kt, 1, none⟩ = some (.int .i64 (t.b)))) (by kernel_rfl) ?_ (fun hHeld1 => ?_)
        · (try dsimp only); exact HK.out _ (Kept.refl _).drew
        refine wpAnyH_take (i := 0) (v := ?_) rfl (by kernel_rfl) (by kernel_rfl) (by kernel_rfl) (fun _ _ _ h => h) (Or.inl ⟨by kernel_rfl, ?_⟩) (by assumption) ?_
        rotate_left
        · intro w'' hSw; (try dsimp only at hSw); simp only [List.getElem_toArray, List.getElem_cons_succ, List.getElem_cons_zero]; (go_simp <;> with_reducible rfl)
        try simp only [Act.put, List.setIfInBounds_toArray, List.set_cons_zero, List.set_cons_succ, List.getElem_toArray, List.getElem_cons_succ, List.getElem_cons_zero]
        refine wpAnyH_take (i := 1) (v := ?_) rfl (by kernel_rfl) (by kernel_rfl) (by kernel_rfl) (fun _ _ _ h => h) (Or.inl ⟨by kernel_rfl, ?_⟩) (by assumption) ?_
        rotate_left
        · intro w'' hSw; (try dsimp only at hSw); simp only [List.getElem_toArray, List.getElem_cons_succ, List.getElem_cons_zero]; (go_simp <;> with_reducible rfl)
        try simp only [Act.put, List.setIfInBounds_toArray, List.set_cons_zero, List.set_cons_succ, List.getElem_toArray, List.getElem_cons_succ, List.getElem_cons_zero]
        refine wpAnyH_take (i := 2) (v := ?_) rfl (by kernel_rfl) (by kernel_rfl) (by kernel_rfl) (fun _ _ _ h => h) (Or.inl ⟨by kernel_rfl, ?_⟩) (by assumption) ?_
        rotate_left
        · intro w'' hSw; (try dsimp only at hSw); simp only [List.getElem_toArray, List.getElem_cons_succ, List.getElem_cons_zero]; (go_simp <;> with_reducible rfl)
        try simp only [Act.put, List.setIfInBounds_toArray, List.set_cons_zero, List.set_cons_succ, List.getElem_toArray, List.getElem_cons_succ, List.getElem_cons_zero]
        refine wpAnyH_take (i := 4) (v := ?_) rfl (by kernel_rfl) (by kernel_rfl) (by kernel_rfl) (fun _ _ _ h => h) (Or.inl ⟨by kernel_rfl, ?_⟩) (by assumption) ?_
        rotate_left
        · intro w'' hSw; (try dsimp only at hSw); simp only [List.getElem_toArray, List.getElem_cons_succ, List.getElem_cons_zero]; (go_simp <;> with_reducible rfl)
        try simp only [Act.put, List.setIfInBounds_toArray, List.set_cons_zero, List.set_cons_succ, List.getElem_toArray, List.getElem_cons_succ, List.getElem_cons_zero]
        refine wpAnyH_take (i := 5) (v := ?_) rfl (by kernel_rfl) (by kernel_rfl) (by kernel_rfl) (fun _ _ _ h => h) (Or.inl ⟨by kernel_rfl, ?_⟩) (by assumption) ?_
        rotate_left
        · intro w'' hSw; (try dsimp only at hSw); simp only [List.getElem_toArray, List.getElem_cons_succ, List.getElem_cons_zero]; (go_simp <;> with_reducible rfl)
        try simp only [Act.put, List.setIfInBounds_toArray, List.set_cons_zero, List.set_cons_succ, List.getElem_toArray, List.getElem_cons_succ, List.getElem_cons_zero]
        refine wpAnyH_take (i := 6) (v := ?_) rfl (by kernel_rfl) (by kernel_rfl) (by kernel_rfl) (fun _ _ _ h => h) (Or.inl ⟨by kernel_rfl, ?_⟩) (by assumption) ?_
        rotate_left
        · intro w'' hSw; (try dsimp only at hSw); simp only [List.getElem_toArray, List.getElem_cons_succ, List.getElem_cons_zero]; (go_simp <;> with_reducible rfl)
        try simp only [Act.put, List.setIfInBounds_toArray, List.set_cons_zero, List.set_cons_succ, List.getElem_toArray, List.getElem_cons_succ, List.getElem_cons_zero]
        refine wpAnyH_ready (rs := [3]) (by kernel_rfl) (by simp) ?_
        refine AllReadyH.cons rfl (fun K hK => ?_) AllReadyH.nil
        first | (with_reducible refine iteYes ?hcx ?htx; case hcx => kernel_rfl) | rw [if_pos (by rfl)]
        simp only [List.getElem_toArray, List.getElem_cons_succ, List.getElem_cons_zero]
        go_simp
        (go_at_call 119; refine (index_calls a1 n c1 C t.a _ hn (H3.out.1.own.bodies.only (Only.refl [] w3).drew)).mono ?_; rintro e w4 ⟨rfl, k4⟩)
        try go_wp2_with fail
        refine hK.out _ _ ?_ (fun hHeld2 => ?_)
        · (try dsimp only); exact HK.out _ ((Kept.refl w3).drew.trans k4)
        clear hK K hHeld1
        try simp only [Act.put, List.setIfInBounds_toArray, List.set_cons_zero, List.set_cons_succ, List.getElem_toArray, List.getElem_cons_succ, List.getElem_cons_zero]
        refine wpAnyH_ready (rs := [7]) (by kernel_rfl) (by simp) ?_
        refine AllReadyH.cons rfl (fun K hK => ?_) AllReadyH.nil
        first | (with_reducible refine iteYes ?hcx ?htx; case hcx => kernel_rfl) | rw [if_pos (by rfl)]
        simp only [List.getElem_toArray, List.getElem_cons_succ, List.getElem_cons_zero]
        go_simp
        (go_at_call 119; refine (index_calls a1 n c1 C t.b _ hn (H3.out.1.own.bodies.only (Only.of_kept ((Kept.refl w3).drew.trans k4)))).mono ?_; rintro e w5 ⟨rfl, k5⟩)
        try go_wp2_with fail
        refine hK.out _ _ ?_ (fun hHeld3 => ?_)
        · (try dsimp only); exact HK.out _ (((Kept.refl w3).drew.trans k4).trans k5)
        clear hK K hHeld2
        try simp only [Act.put, List.setIfInBounds_toArray, List.set_cons_zero, List.set_cons_succ, List.getElem_toArray, List.getElem_cons_succ, List.getElem_cons_zero]
        refine wpAnyH_take (i := 8) (v := ?_) rfl (by kernel_rfl) (by kernel_rfl) (by kernel_rfl) (fun _ _ _ h => h) (Or.inl ⟨by kernel_rfl, ?_⟩) (by assumption) ?_
        rotate_left
        · intro w'' hSw; (try dsimp only at hSw); simp only [List.getElem_toArray, List.getElem_cons_succ, List.getElem_cons_zero]; (go_simp <;> with_reducible rfl)
        try simp only [Act.put, List.setIfInBounds_toArray, List.set_cons_zero, List.set_cons_succ, List.getElem_toArray, List.getElem_cons_succ, List.getElem_cons_zero]
        refine wpAnyH_take (i := 9) (v := ?_) rfl (by kernel_rfl) (by kernel_rfl) (by kernel_rfl) (fun _ _ _ h => h) (Or.inl ⟨by kernel_rfl, ?_⟩) (by assumption) ?_
        rotate_left
        · intro w'' hSw; (try dsimp only at hSw); simp only [List.getElem_toArray, List.getElem_cons_succ, List.getElem_cons_zero]; (go_simp <;> with_reducible rfl)
        try simp only [Act.put, List.setIfInBounds_toArray, List.set_cons_zero, List.set_cons_succ, List.getElem_toArray, List.getElem_cons_succ, List.getElem_cons_zero]
        refine wpAnyH_done (by kernel_rfl) ?_ _
        have HRW : Hid (RW w a1 g n C w5) := H3.out.1.keep (Only.of_kept (((Kept.refl w3).drew.trans k4).trans k5))
        have HTT : Hid (TouchAt w5 kt t) := H3.out.2.1.only (Only.of_kept (D := []) (((Kept.refl w3).drew.trans k4).trans k5)) (by simp)
        have HGK : Hid (∀ q, q < n → kt ≠ g) := H3.out.2.2
        clear hHeld3 HK k4 k5 H3 HP
        have m5 := HTT.out.off 5
        simp only [List.getElem?_toArray, List.getElem?_cons_succ, List.getElem?_cons_zero] at m5
        cases hfa : findX C t.a n with
        | none =>
          have HE : Hid (stepX n C t = C) := by show stepX n C t = C; simp [stepX, hfa]
          clear hfa
          generalize numX (findX C t.b n) = nb
          simp only [numX]
          go_wp2_with fail
          go_roundg (m - (j + 1))
          case measure => have := H2.out.2; omega
          case rel => exact ⟨j + 1, by go_num, ⟨by omega, rfl⟩, by show RW w _ g n (stepX n (placesX n B T j) (T j)) _; rw [← HT.out, ← HC.out, HE.out]; exact (HRW.out.keep (Only.refl _ _) : RW ..)⟩
        | some i =>
          cases hfb : findX C t.b n with
          | none =>
            have HE : Hid (stepX n C t = C) := by show stepX n C t = C; simp [stepX, hfa, hfb]
            obtain ⟨hin, _⟩ := findX_some hfa
            clear hfa hfb
            have ti : ¬ (i : Int) < 0 := by omega
            simp only [numX]
            go_wp2_with fail
            go_roundg (m - (j + 1))
            case measure => have := H2.out.2; omega
            case rel => exact ⟨j + 1, by go_num, ⟨by omega, rfl⟩, by show RW w _ g n (stepX n (placesX n B T j) (T j)) _; rw [← HT.out, ← HC.out, HE.out]; exact (HRW.out.keep (Only.refl _ _) : RW ..)⟩
          | some k =>
            obtain ⟨hin, _⟩ := findX_some hfa
            obtain ⟨hkn, _⟩ := findX_some hfb
            have ti : ¬ (i : Int) < 0 := by omega
            have tk : ¬ (k : Int) < 0 := by omega
            simp only [numX]
            by_cases hik : i = k
            · subst hik
              have HE : Hid (stepX n C t = C) := by show stepX n C t = C; simp [stepX, hfa, hfb]
              clear hfa hfb
              go_wp2_with fail
              go_roundg (m - (j + 1))
              case measure => have := H2.out.2; omega
              case rel => exact ⟨j + 1, by go_num, ⟨by omega, rfl⟩, by show RW w _ g n (stepX n (placesX n B T j) (T j)) _; rw [← HT.out, ← HC.out, HE.out]; exact (HRW.out.keep (Only.refl _ _) : RW ..)⟩
            · have tik : ((i : Int) == (k : Int)) = false := by simp; omega
              by_cases hd : t.deep ≤ 655
              · have HE : Hid (stepX n C t = C) := by show stepX n C t = C; simp [stepX, hfa, hfb, hd]
                clear hfa hfb
                go_wp2_with fail
                go_roundg (m - (j + 1))
                case measure => have := H2.out.2; omega
                case rel => exact ⟨j + 1, by go_num, ⟨by omega, rfl⟩, by show RW w _ g n (stepX n (placesX n B T j) (T j)) _; rw [← HT.out, ← HC.out, HE.out]; exact (HRW.out.keep (Only.refl _ _) : RW ..)⟩
              · have HE : Hid (stepX n C t = if 0 < add (lightX (C i).ms) (lightX (C k).ms) then partX C i k (lightX (C i).ms) (lightX (C k).ms) (add (lightX (C i).ms) (lightX (C k).ms)) t.way t.deep else C) := by show stepX n C t = _; simp [stepX, hfa, hfb, hik, hd]
                clear hfa hfb
                as_aux_lemma =>
                  have hil : (i : Int) < (n : Int) := by omega
                  have hkl : (k : Int) < (n : Int) := by omega
                  obtain ⟨ha1, hO⟩ := HRW.out.there hin
                  subst ha1
                  go_upto_region 7 with fail
                  obtain ⟨qi, hqi⟩ : ∃ q, q = C i := ⟨_, rfl⟩
                  obtain ⟨qk, hqk⟩ : ∃ q, q = C k := ⟨_, rfl⟩
                  have HQQ : Hid (qi = C i ∧ qk = C k) := ⟨hqi, hqk⟩
                  rw [← hqi, ← hqk] at HE
                  have hAi := hO.all hin hqi
                  have hAk := hO.all hkn hqk
                  have HLI : Hid (∀ w', Kept w5 w' → AllAt w' g i qi) := fun w' o => hAi.kept o
                  have HLK : Hid (∀ w', Kept w5 w' → AllAt w' g k qk) := fun w' o => hAk.kept o
                  clear hqi hqk hAi hAk hO
                  refine wp_region_held_drew (S := (fun w' => Kept w5 w')) (by kernel_rfl) ?_ (fun hHeld1 => ?_)
                  · (try dsimp only); exact (Kept.refl _).drew
                  refine wpAnyH_take (i := 0) (v := ?_) rfl (by kernel_rfl) (by kernel_rfl) (by kernel_rfl) (fun _ _ _ h => h) (Or.inl ⟨by kernel_rfl, ?_⟩) (by assumption) ?_
                  rotate_left
                  · intro w'' hSw; (try dsimp only at hSw); simp only [List.getElem_toArray, List.getElem_cons_succ, List.getElem_cons_zero]; (go_simp <;> with_reducible rfl)
                  try simp only [Act.put, List.setIfInBounds_toArray, List.set_cons_zero, List.set_cons_succ, List.getElem_toArray, List.getElem_cons_succ, List.getElem_cons_zero]
                  refine wpAnyH_take (i := 1) (v := ?_) rfl (by kernel_rfl) (by kernel_rfl) (by kernel_rfl) (fun _ _ _ h => h) (Or.inl ⟨by kernel_rfl, ?_⟩) (by assumption) ?_
                  rotate_left
                  · intro w'' hSw; (try dsimp only at hSw); simp only [List.getElem_toArray, List.getElem_cons_succ, List.getElem_cons_zero]; (go_simp <;> with_reducible rfl)
                  try simp only [Act.put, List.setIfInBounds_toArray, List.set_cons_zero, List.set_cons_succ, List.getElem_toArray, List.getElem_cons_succ, List.getElem_cons_zero]
                  refine wpAnyH_take (i := 2) (v := ?_) rfl (by kernel_rfl) (by kernel_rfl) (by kernel_rfl) (fun _ _ _ h => h) (Or.inl ⟨by kernel_rfl, ?_⟩) (by assumption) ?_
                  rotate_left
                  · intro w'' hSw; (try dsimp only at hSw); simp only [List.getElem_toArray, List.getElem_cons_succ, List.getElem_cons_zero]; (go_simp <;> with_reducible rfl)
                  try simp only [Act.put, List.setIfInBounds_toArray, List.set_cons_zero, List.set_cons_succ, List.getElem_toArray, List.getElem_cons_succ, List.getElem_cons_zero]
                  refine wpAnyH_take (i := 5) (v := ?_) rfl (by kernel_rfl) (by kernel_rfl) (by kernel_rfl) (fun _ _ _ h => h) (Or.inl ⟨by kernel_rfl, ?_⟩) (by assumption) ?_
                  rotate_left
                  · intro w'' hSw; (try dsimp only at hSw); simp only [List.getElem_toArray, List.getElem_cons_succ, List.getElem_cons_zero]; (go_simp <;> with_reducible rfl)
                  try simp only [Act.put, List.setIfInBounds_toArray, List.set_cons_zero, List.set_cons_succ, List.getElem_toArray, List.getElem_cons_succ, List.getElem_cons_zero]
                  refine wpAnyH_take (i := 6) (v := ?_) rfl (by kernel_rfl) (by kernel_rfl) (by kernel_rfl) (fun _ _ _ h => h) (Or.inl ⟨by kernel_rfl, ?_⟩) (by assumption) ?_
                  rotate_left
                  · intro w'' hSw; (try dsimp only at hSw); simp only [List.getElem_toArray, List.getElem_cons_succ, List.getElem_cons_zero]; (go_simp <;> with_reducible rfl)
                  try simp only [Act.put, List.setIfInBounds_toArray, List.set_cons_zero, List.set_cons_succ, List.getElem_toArray, List.getElem_cons_succ, List.getElem_cons_zero]
                  refine wpAnyH_take (i := 7) (v := ?_) rfl (by kernel_rfl) (by kernel_rfl) (by kernel_rfl) (fun _ _ _ h => h) (Or.inl ⟨by kernel_rfl, ?_⟩) (by assumption) ?_
                  rotate_left
                  · intro w'' hSw; (try dsimp only at hSw); simp only [List.getElem_toArray, List.getElem_cons_succ, List.getElem_cons_zero]; (go_simp <;> with_reducible rfl)
                  try simp only [Act.put, List.setIfInBounds_toArray, List.set_cons_zero, List.set_cons_succ, List.getElem_toArray, List.getElem_cons_succ, List.getElem_cons_zero]
                  refine wpAnyH_take (i := 3) (v := ?_) rfl (by kernel_rfl) (by kernel_rfl) (by kernel_rfl) (fun _ _ _ h => h) (Or.inl ⟨by kernel_rfl, ?_⟩) (by assumption) ?_
                  rotate_left
                  · intro w'' hSw; (try dsimp only at hSw); obtain ⟨d0, d1, d2, d3, d4, d5, d6, d7, d8, d9, d10, d11, d12, d13, d14, d15, d16⟩ := HLI.out _ hSw; simp only [List.getElem_toArray, List.getElem_cons_succ, List.getElem_cons_zero]; (go_simp <;> with_reducible rfl)
                  try simp only [Act.put, List.setIfInBounds_toArray, List.set_cons_zero, List.set_cons_succ, List.getElem_toArray, List.getElem_cons_succ, List.getElem_cons_zero]
                  refine wpAnyH_take (i := 8) (v := ?_) rfl (by kernel_rfl) (by kernel_rfl) (by kernel_rfl) (fun _ _ _ h => h) (Or.inl ⟨by kernel_rfl, ?_⟩) (by assumption) ?_
                  rotate_left
                  · intro w'' hSw; (try dsimp only at hSw); obtain ⟨d0, d1, d2, d3, d4, d5, d6, d7, d8, d9, d10, d11, d12, d13, d14, d15, d16⟩ := HLK.out _ hSw; simp only [List.getElem_toArray, List.getElem_cons_succ, List.getElem_cons_zero]; (go_simp <;> with_reducible rfl)
                  try simp only [Act.put, List.setIfInBounds_toArray, List.set_cons_zero, List.set_cons_succ, List.getElem_toArray, List.getElem_cons_succ, List.getElem_cons_zero]
                  refine wpAnyH_ready (rs := [4]) (by kernel_rfl) (by simp) ?_
                  refine AllReadyH.cons rfl (fun K hK => ?_) AllReadyH.nil
                  first | (with_reducible refine iteYes ?hcx ?htx; case hcx => kernel_rfl) | rw [if_pos (by rfl)]
                  simp only [List.getElem_toArray, List.getElem_cons_succ, List.getElem_cons_zero]
                  go_simp
                  (go_at_call 120; refine (refLight_calls qi _).mono ?_; rintro e w6 ⟨rfl, k6⟩)
                  try go_wp2_with fail
                  refine hK.out _ _ ?_ (fun hHeld2 => ?_)
                  · (try dsimp only); exact (Kept.refl w5).drew.trans k6
                  clear hK K hHeld1
                  try simp only [Act.put, List.setIfInBounds_toArray, List.set_cons_zero, List.set_cons_succ, List.getElem_toArray, List.getElem_cons_succ, List.getElem_cons_zero]
                  refine wpAnyH_ready (rs := [9]) (by kernel_rfl) (by simp) ?_
                  refine AllReadyH.cons rfl (fun K hK => ?_) AllReadyH.nil
                  first | (with_reducible refine iteYes ?hcx ?htx; case hcx => kernel_rfl) | rw [if_pos (by rfl)]
                  simp only [List.getElem_toArray, List.getElem_cons_succ, List.getElem_cons_zero]
                  go_simp
                  (go_at_call 120; refine (refLight_calls qk _).mono ?_; rintro e w7 ⟨rfl, k7⟩)
                  try go_wp2_with fail
                  refine hK.out _ _ ?_ (fun hHeld3 => ?_)
                  · (try dsimp only); exact ((Kept.refl w5).drew.trans k6).trans k7
                  clear hK K hHeld2
                  try simp only [Act.put, List.setIfInBounds_toArray, List.set_cons_zero, List.set_cons_succ, List.getElem_toArray, List.getElem_cons_succ, List.getElem_cons_zero]
                  refine wpAnyH_take (i := 10) (v := ?_) rfl (by kernel_rfl) (by kernel_rfl) (by kernel_rfl) (fun _ _ _ h => h) (Or.inl ⟨by kernel_rfl, ?_⟩) (by assumption) ?_
                  rotate_left
                  · intro w'' hSw; (try dsimp only at hSw); simp only [List.getElem_toArray, List.getElem_cons_succ, List.getElem_cons_zero]; (go_simp <;> with_reducible rfl)
                  try simp only [Act.put, List.setIfInBounds_toArray, List.set_cons_zero, List.set_cons_succ, List.getElem_toArray, List.getElem_cons_succ, List.getElem_cons_zero]
                  refine wpAnyH_take (i := 11) (v := ?_) rfl (by kernel_rfl) (by kernel_rfl) (by kernel_rfl) (fun _ _ _ h => h) (Or.inl ⟨by kernel_rfl, ?_⟩) (by assumption) ?_
                  rotate_left
                  · intro w'' hSw; (try dsimp only at hSw); simp only [List.getElem_toArray, List.getElem_cons_succ, List.getElem_cons_zero]; (go_simp <;> with_reducible rfl)
                  try simp only [Act.put, List.setIfInBounds_toArray, List.set_cons_zero, List.set_cons_succ, List.getElem_toArray, List.getElem_cons_succ, List.getElem_cons_zero]
                  refine wpAnyH_done (by kernel_rfl) ?_ _
                  have K7 : Hid (Kept w5 w7) := ((Kept.refl w5).drew.trans k6).trans k7
                  clear hHeld3 k6 k7 HLI HLK m5
                  generalize hx : lightX qi.ms = x at HE
                  generalize hy : lightX qk.ms = y at HE
                  clear hx hy
                  go_wp2_with fail
                  refine (refAdd_calls x y _).mono ?_
                  rintro e w8 ⟨rfl, hw8⟩
                  subst hw8
                  generalize hal : add x y = al at HE
                  clear hal
                  by_cases hpos : 0 < al
                  · have HE1 : Hid (stepX n C t = partX C i k x y al t.way t.deep) := by show stepX n C t = _; rw [HE.out, if_pos hpos]
                    clear HE
                    have HRW7 : Hid (RW w (some ⟨g, 0, none⟩) g n C w8 ∧ TouchAt w8 kt t) := ⟨HRW.out.keep (Only.of_kept K7.out), HTT.out.only (Only.of_kept (D := []) K7.out) (by simp)⟩
                    have m5 := HRW7.out.2.off 5
                    simp only [List.getElem?_toArray, List.getElem?_cons_succ, List.getElem?_cons_zero] at m5
                    clear K7 HRW HTT
                    go_wp2_with fail
                    refine (refSub_calls t.deep 655 _).mono ?_
                    rintro e w9 ⟨rfl, hw9⟩
                    subst hw9
                    have hq5 := quo5 (sub t.deep 655) (cut_ge _) (cut_le _)
                    go_wp2_with fail
                    refine (refDiv_calls ((sub t.deep 655).tdiv 5) al _).mono ?_
                    rintro e w10 ⟨rfl, hw10⟩
                    subst hw10
                    clear hq5 m5
                    have HDD : Hid (div ((sub t.deep 655).tdiv 5) al = deepX t.deep al) := rfl
                    generalize div ((sub t.deep 655).tdiv 5) al = dd at HDD ⊢
                    have HOW : Hid (True ∧ OwnB w10 g n C) := ⟨trivial, (HRW7.out.1.there hin).2⟩
                    have HTA : Hid (TouchAt w10 kt t ∧ kt ≠ g) := ⟨HRW7.out.2, HGK.out i hin⟩
                    go_upto_region 11 with fail
                    go_cut [12] from 68 to 102 (fun s12 wc => OwnB wc g n (upd C i (backX (C i) t.way (mul dd x))) ∧ Only [g] w10 wc)
                    case first =>
                      as_aux_lemma =>
                        obtain ⟨q, hq⟩ : ∃ q, q = C i := ⟨_, rfl⟩
                        have HQ : Hid (q = C i) := hq
                        clear hq
                        have HLD : Hid (∀ w', Kept w10 w' → w'.cell? ⟨g, i * 17 + 6, none⟩ = some (.int .i64 (q.ax)) ∧ w'.cell? ⟨g, i * 17 + 7, none⟩ = some (.int .i64 (q.ay)) ∧ w'.cell? ⟨g, i * 17 + 8, none⟩ = some (.int .i64 (q.az))) := fun w' o => by
                          have c6 := HOW.out.2.cell hin (show 6 < 17 by omega); have c7 := HOW.out.2.cell hin (show 7 < 17 by omega); have c8 := HOW.out.2.cell hin (show 8 < 17 by omega)
                          rw [← HQ.out] at c6 c7 c8
                          exact ⟨kept_cell o c6, kept_cell o c7, kept_cell o c8⟩
                        have HK : Hid (∀ w', Only [g] w10 w' → Only [g] w10 w' ∧ w'.cell? ⟨kt, 2, none⟩ = some (.int .i64 (t.way.x)) ∧ w'.cell? ⟨kt, 3, none⟩ = some (.int .i64 (t.way.y)) ∧ w'.cell? ⟨kt, 4, none⟩ = some (.int .i64 (t.way.z))) := fun w' o => ⟨o, cell_only o (HTA.out.1.off 2) (by simp only [List.mem_singleton]; exact HTA.out.2), cell_only o (HTA.out.1.off 3) (by simp only [List.mem_singleton]; exact HTA.out.2), cell_only o (HTA.out.1.off 4) (by simp only [List.mem_singleton]; exact HTA.out.2)⟩
                        refine wp_region_held_drew (S := fun w' => Only [g] w10 w' ∧ w'.cell? ⟨kt, 2, none⟩ = some (.int .i64 (t.way.x)) ∧ w'.cell? ⟨kt, 3, none⟩ = some (.int .i64 (t.way.y)) ∧ w'.cell? ⟨kt, 4, none⟩ = some (.int .i64 (t.way.z))) (by kernel_rfl) ?_ (fun hH0 => ?_)
                        · (try dsimp only); exact HK.out _ (Only.refl _ _).drew
                        refine wpAnyH_take (i := 0) (v := ?_) rfl (by kernel_rfl) (by kernel_rfl) (by kernel_rfl) (fun _ _ _ h => h) (Or.inl ⟨by kernel_rfl, ?_⟩) (by assumption) ?_
                        rotate_left
                        · intro w'' hSw; (try dsimp only at hSw); simp only [List.getElem_toArray, List.getElem_cons_succ, List.getElem_cons_zero]; (go_simp <;> with_reducible rfl)
                        try simp only [Act.put, List.setIfInBounds_toArray, List.set_cons_zero, List.set_cons_succ, List.getElem_toArray, List.getElem_cons_succ, List.getElem_cons_zero]
                        refine wpAnyH_take (i := 1) (v := ?_) rfl (by kernel_rfl) (by kernel_rfl) (by kernel_rfl) (fun _ _ _ h => h) (Or.inl ⟨by kernel_rfl, ?_⟩) (by assumption) ?_
                        rotate_left
                        · intro w'' hSw; (try dsimp only at hSw); simp only [List.getElem_toArray, List.getElem_cons_succ, List.getElem_cons_zero]; (go_simp <;> with_reducible rfl)
                        try simp only [Act.put, List.setIfInBounds_toArray, List.set_cons_zero, List.set_cons_succ, List.getElem_toArray, List.getElem_cons_succ, List.getElem_cons_zero]
                        refine wpAnyH_take (i := 2) (v := ?_) rfl (by kernel_rfl) (by kernel_rfl) (by kernel_rfl) (fun _ _ _ h => h) (Or.inl ⟨by kernel_rfl, ?_⟩) (by assumption) ?_
                        rotate_left
                        · intro w'' hSw; (try dsimp only at hSw); simp only [List.getElem_toArray, List.getElem_cons_succ, List.getElem_cons_zero]; (go_simp <;> with_reducible rfl)
                        try simp only [Act.put, List.setIfInBounds_toArray, List.set_cons_zero, List.set_cons_succ, List.getElem_toArray, List.getElem_cons_succ, List.getElem_cons_zero]
                        refine wpAnyH_take (i := 3) (v := ?_) rfl (by kernel_rfl) (by kernel_rfl) (by kernel_rfl) (fun _ _ _ h => h) (Or.inl ⟨by kernel_rfl, ?_⟩) (by assumption) ?_
                        rotate_left
                        · intro w'' hSw; (try dsimp only at hSw); simp only [List.getElem_toArray, List.getElem_cons_succ, List.getElem_cons_zero]; (go_simp <;> with_reducible rfl)
                        try simp only [Act.put, List.setIfInBounds_toArray, List.set_cons_zero, List.set_cons_succ, List.getElem_toArray, List.getElem_cons_succ, List.getElem_cons_zero]
                        refine wpAnyH_take (i := 4) (v := ?_) rfl (by kernel_rfl) (by kernel_rfl) (by kernel_rfl) (fun _ _ _ h => h) (Or.inl ⟨by kernel_rfl, ?_⟩) (by assumption) ?_
                        rotate_left
                        · intro w'' hSw; (try dsimp only at hSw); simp only [List.getElem_toArray, List.getElem_cons_succ, List.getElem_cons_zero]; (go_simp <;> with_reducible rfl)
                        try simp only [Act.put, List.setIfInBounds_toArray, List.set_cons_zero, List.set_cons_succ, List.getElem_toArray, List.getElem_cons_succ, List.getElem_cons_zero]
                        refine wpAnyH_take (i := 5) (v := ?_) rfl (by kernel_rfl) (by kernel_rfl) (by kernel_rfl) (fun _ _ _ h => h) (Or.inl ⟨by kernel_rfl, ?_⟩) (by assumption) ?_
                        rotate_left
                        · intro w'' hSw; (try dsimp only at hSw); simp only [List.getElem_toArray, List.getElem_cons_succ, List.getElem_cons_zero]; (go_simp <;> with_reducible rfl)
                        try simp only [Act.put, List.setIfInBounds_toArray, List.set_cons_zero, List.set_cons_succ, List.getElem_toArray, List.getElem_cons_succ, List.getElem_cons_zero]
                        refine wpAnyH_take (i := 7) (v := ?_) rfl (by kernel_rfl) (by kernel_rfl) (by kernel_rfl) (fun _ _ _ h => h) (Or.inl ⟨by kernel_rfl, ?_⟩) (by assumption) ?_
                        rotate_left
                        · intro w'' hSw; (try dsimp only at hSw); simp only [List.getElem_toArray, List.getElem_cons_succ, List.getElem_cons_zero]; (go_simp <;> with_reducible rfl)
                        try simp only [Act.put, List.setIfInBounds_toArray, List.set_cons_zero, List.set_cons_succ, List.getElem_toArray, List.getElem_cons_succ, List.getElem_cons_zero]
                        refine wpAnyH_take (i := 8) (v := ?_) rfl (by kernel_rfl) (by kernel_rfl) (by kernel_rfl) (fun _ _ _ h => h) (Or.inl ⟨by kernel_rfl, ?_⟩) (by assumption) ?_
                        rotate_left
                        · intro w'' hSw; (try dsimp only at hSw); simp only [List.getElem_toArray, List.getElem_cons_succ, List.getElem_cons_zero]; (go_simp <;> with_reducible rfl)
                        try simp only [Act.put, List.setIfInBounds_toArray, List.set_cons_zero, List.set_cons_succ, List.getElem_toArray, List.getElem_cons_succ, List.getElem_cons_zero]
                        refine wpAnyH_take (i := 9) (v := ?_) rfl (by kernel_rfl) (by kernel_rfl) (by kernel_rfl) (fun _ _ _ h => h) (Or.inl ⟨by kernel_rfl, ?_⟩) (by assumption) ?_
                        rotate_left
                        · intro w'' hSw; (try dsimp only at hSw); simp only [List.getElem_toArray, List.getElem_cons_succ, List.getElem_cons_zero]; (go_simp <;> with_reducible rfl)
                        try simp only [Act.put, List.setIfInBounds_toArray, List.set_cons_zero, List.set_cons_succ, List.getElem_toArray, List.getElem_cons_succ, List.getElem_cons_zero]
                        refine wpAnyH_take (i := 10) (v := ?_) rfl (by kernel_rfl) (by kernel_rfl) (by kernel_rfl) (fun _ _ _ h => h) (Or.inl ⟨by kernel_rfl, ?_⟩) (by assumption) ?_
                        rotate_left
                        · intro w'' hSw; (try dsimp only at hSw); simp only [List.getElem_toArray, List.getElem_cons_succ, List.getElem_cons_zero]; (go_simp <;> with_reducible rfl)
                        try simp only [Act.put, List.setIfInBounds_toArray, List.set_cons_zero, List.set_cons_succ, List.getElem_toArray, List.getElem_cons_succ, List.getElem_cons_zero]
                        refine wpAnyH_ready (rs := [6, 11]) (by kernel_rfl) (by simp) ?_
                        refine AllReadyH.cons rfl (fun K hK => ?_) (AllReadyH.cons rfl (fun K hK => ?_) AllReadyH.nil)
                        · rw [if_pos (by rfl)]
                          obtain ⟨l0, l1, l2⟩ := HLD.out _ (Kept.refl w10).drew
                          simp only [List.getElem_toArray, List.getElem_cons_succ, List.getElem_cons_zero]
                          go_simp
                          clear l0 l1 l2
                          refine hK.out _ _ ?_ (fun hH1 => ?_)
                          · (try dsimp only); exact HK.out _ (Only.of_kept (Kept.refl w10).drew)
                          clear hK K hH0
                          try simp only [Act.put, List.setIfInBounds_toArray, List.set_cons_zero, List.set_cons_succ, List.getElem_toArray, List.getElem_cons_succ, List.getElem_cons_zero]
                          refine wpAnyH_ready (rs := [11]) (by kernel_rfl) (by simp) ?_
                          refine AllReadyH.cons rfl (fun K hK => ?_) AllReadyH.nil
                          rw [if_pos (by rfl)]
                          simp only [List.getElem_toArray, List.getElem_cons_succ, List.getElem_cons_zero]
                          go_simp
                          (go_at_call 21; refine (refMul_calls _ _ _).mono ?_; rintro e wq2 ⟨rfl, hq⟩; subst hq)
                          try go_wp2_with fail
                          refine hK.out _ _ ?_ (fun hH2 => ?_)
                          · (try dsimp only); exact HK.out _ (Only.of_kept (Kept.refl w10).drew)
                          clear hK K hH1
                          try simp only [Act.put, List.setIfInBounds_toArray, List.set_cons_zero, List.set_cons_succ, List.getElem_toArray, List.getElem_cons_succ, List.getElem_cons_zero]
                          refine wpAnyH_ready (rs := [12]) (by kernel_rfl) (by simp) ?_
                          refine AllReadyH.cons rfl (fun K hK => ?_) AllReadyH.nil
                          rw [if_pos (by rfl)]
                          simp only [List.getElem_toArray, List.getElem_cons_succ, List.getElem_cons_zero]
                          go_simp
                          (go_at_call 31; refine (refTimes_calls _ _ _ _ _).mono ?_; rintro e wq3 ⟨rfl, kq3⟩)
                          try go_wp2_with fail
                          refine hK.out _ _ ?_ (fun hH3 => ?_)
                          · (try dsimp only); exact HK.out _ (Only.of_kept ((Kept.refl w10).drew.trans kq3))
                          clear hK K hH2
                          try simp only [Act.put, List.setIfInBounds_toArray, List.set_cons_zero, List.set_cons_succ, List.getElem_toArray, List.getElem_cons_succ, List.getElem_cons_zero]
                          as_aux_lemma =>
                            refine wpAnyH_ready (rs := [13]) (by kernel_rfl) (by simp) ?_
                            refine AllReadyH.cons rfl (fun K hK => ?_) AllReadyH.nil
                            rw [if_pos (by rfl)]
                            simp only [List.getElem_toArray, List.getElem_cons_succ, List.getElem_cons_zero]
                            go_simp
                            (go_at_call 29; refine (refMinus_calls _ _ _ _ _ _ _).mono ?_; rintro e wr3 ⟨rfl, kr3⟩)
                            try go_wp2_with fail
                            refine hK.out _ _ ?_ (fun hHr3 => ?_)
                            · (try dsimp only); exact HK.out _ (Only.of_kept (((Kept.refl w10).drew.trans kq3).trans kr3))
                            clear hK K hH3
                            try simp only [Act.put, List.setIfInBounds_toArray, List.set_cons_zero, List.set_cons_succ, List.getElem_toArray, List.getElem_cons_succ, List.getElem_cons_zero]
                            refine wpAnyH_ready (rs := [14]) (by kernel_rfl) (by simp) ?_
                            refine AllReadyH.cons rfl (fun K hK => ?_) AllReadyH.nil
                            rw [if_pos (by rfl)]
                            simp only [List.getElem_toArray, List.getElem_cons_succ, List.getElem_cons_zero]
                            go_simp
                            (go_at_call 39; refine (refClamp_calls _ _ _ _ _ (by decide)).mono ?_; rintro e wr4 ⟨rfl, kr4⟩)
                            try go_wp2_with fail
                            refine hK.out _ _ ?_ (fun hHr4 => ?_)
                            · (try dsimp only); exact HK.out _ (Only.of_kept ((((Kept.refl w10).drew.trans kq3).trans kr3).trans kr4))
                            clear hK K hHr3
                            try simp only [Act.put, List.setIfInBounds_toArray, List.set_cons_zero, List.set_cons_succ, List.getElem_toArray, List.getElem_cons_succ, List.getElem_cons_zero]
                            simp only [bound_place]
                            have K7 : Hid (Kept w10 wr4) := (((Kept.refl w10).drew.trans kq3).trans kr3).trans kr4
                            clear kr3 kr4
                            obtain ⟨e6, e7, e8⟩ := HLD.out _ K7.out
                            have f6 := kept_frozen K7.out (HOW.out.2.free (i * 17 + 6)); have f7 := kept_frozen K7.out (HOW.out.2.free (i * 17 + 7)); have f8 := kept_frozen K7.out (HOW.out.2.free (i * 17 + 8))
                            refine wpAnyH_take (i := 15) (v := ?_) rfl (by kernel_rfl) (by kernel_rfl) (by kernel_rfl) (fun _ _ _ h => h) (Or.inl ⟨by kernel_rfl, ?_⟩) (by assumption) ?_
                            rotate_left
                            · intro w'' hSw; (try dsimp only at hSw); simp only [List.getElem_toArray, List.getElem_cons_succ, List.getElem_cons_zero]; (go_simp <;> with_reducible rfl)
                            try simp only [Act.put, List.setIfInBounds_toArray, List.set_cons_zero, List.set_cons_succ, List.getElem_toArray, List.getElem_cons_succ, List.getElem_cons_zero]
                            refine wpAnyH_take (i := 16) (v := ?_) rfl (by kernel_rfl) (by kernel_rfl) (by kernel_rfl) (fun _ _ _ h => h) (Or.inl ⟨by kernel_rfl, ?_⟩) (by assumption) ?_
                            rotate_left
                            · intro w'' hSw; (try dsimp only at hSw); simp only [List.getElem_toArray, List.getElem_cons_succ, List.getElem_cons_zero]; (go_simp <;> with_reducible rfl)
                            try simp only [Act.put, List.setIfInBounds_toArray, List.set_cons_zero, List.set_cons_succ, List.getElem_toArray, List.getElem_cons_succ, List.getElem_cons_zero]
                            refine wpAnyH_ready (rs := [17]) (by kernel_rfl) (by simp) ?_
                            refine AllReadyH.cons rfl (fun K hK => ?_) AllReadyH.nil
                            rw [if_pos (by rfl)]
                            simp only [List.getElem_toArray, List.getElem_cons_succ, List.getElem_cons_zero]
                            go_simp
                            refine hK.out _ _ ?_ (fun hHr5 => ?_)
                            · (try dsimp only); exact HK.out _ ((((Only.of_kept K7.out).setCell (p := ⟨g, i * 17 + 6, none⟩) (Or.inl (by simp)) _).setCell (p := ⟨g, i * 17 + 7, none⟩) (Or.inl (by simp)) _).setCell (p := ⟨g, i * 17 + 8, none⟩) (Or.inl (by simp)) _)
                            clear hK K
                            try simp only [Act.put, List.setIfInBounds_toArray, List.set_cons_zero, List.set_cons_succ, List.getElem_toArray, List.getElem_cons_succ, List.getElem_cons_zero]
                            refine wpAnyH_done (by kernel_rfl) ?_ _
                            go_wp2_with fail
                            go_meet
                            case rel =>
                              refine ⟨?_, (((Only.of_kept K7.out).setCell (p := ⟨g, i * 17 + 6, none⟩) (Or.inl (by simp)) _).setCell (p := ⟨g, i * 17 + 7, none⟩) (Or.inl (by simp)) _).setCell (p := ⟨g, i * 17 + 8, none⟩) (Or.inl (by simp)) _⟩
                              have h1 := (HOW.out.2.only (Only.of_kept (D := []) K7.out) (by simp)).putAt hin (cl 65536000 (sub q.ax (mul t.way.x (mul dd x)))) (cl 65536000 (sub q.ay (mul t.way.y (mul dd x)))) (cl 65536000 (sub q.az (mul t.way.z (mul dd x))))
                              rw [HQ.out] at h1
                              show OwnB _ g n (upd C i (backX (C i) t.way (mul dd x)))
                              rw [HQ.out]; exact h1
                        · rw [if_pos (by rfl)]
                          simp only [List.getElem_toArray, List.getElem_cons_succ, List.getElem_cons_zero]
                          go_simp
                          (go_at_call 21; refine (refMul_calls _ _ _).mono ?_; rintro e wq4 ⟨rfl, hq⟩; subst hq)
                          try go_wp2_with fail
                          refine hK.out _ _ ?_ (fun hH4 => ?_)
                          · (try dsimp only); exact HK.out _ (Only.of_kept (Kept.refl w10).drew)
                          clear hK K hH0
                          try simp only [Act.put, List.setIfInBounds_toArray, List.set_cons_zero, List.set_cons_succ, List.getElem_toArray, List.getElem_cons_succ, List.getElem_cons_zero]
                          refine wpAnyH_ready (rs := [6, 12]) (by kernel_rfl) (by simp) ?_
                          refine AllReadyH.cons rfl (fun K hK => ?_) (AllReadyH.cons rfl (fun K hK => ?_) AllReadyH.nil)
                          · rw [if_pos (by rfl)]
                            obtain ⟨l0, l1, l2⟩ := HLD.out _ (Kept.refl w10).drew
                            simp only [List.getElem_toArray, List.getElem_cons_succ, List.getElem_cons_zero]
                            go_simp
                            clear l0 l1 l2
                            refine hK.out _ _ ?_ (fun hH5 => ?_)
                            · (try dsimp only); exact HK.out _ (Only.of_kept (Kept.refl w10).drew)
                            clear hK K hH4
                            try simp only [Act.put, List.setIfInBounds_toArray, List.set_cons_zero, List.set_cons_succ, List.getElem_toArray, List.getElem_cons_succ, List.getElem_cons_zero]
                            refine wpAnyH_ready (rs := [12]) (by kernel_rfl) (by simp) ?_
                            refine AllReadyH.cons rfl (fun K hK => ?_) AllReadyH.nil
                            rw [if_pos (by rfl)]
                            simp only [List.getElem_toArray, List.getElem_cons_succ, List.getElem_cons_zero]
                            go_simp
                            (go_at_call 31; refine (refTimes_calls _ _ _ _ _).mono ?_; rintro e wq6 ⟨rfl, kq6⟩)
                            try go_wp2_with fail
                            refine hK.out _ _ ?_ (fun hH6 => ?_)
                            · (try dsimp only); exact HK.out _ (Only.of_kept ((Kept.refl w10).drew.trans kq6))
                            clear hK K hH5
                            try simp only [Act.put, List.setIfInBounds_toArray, List.set_cons_zero, List.set_cons_succ, List.getElem_toArray, List.getElem_cons_succ, List.getElem_cons_zero]
                            as_aux_lemma =>
                              refine wpAnyH_ready (rs := [13]) (by kernel_rfl) (by simp) ?_
                              refine AllReadyH.cons rfl (fun K hK => ?_) AllReadyH.nil
                              rw [if_pos (by rfl)]
                              simp only [List.getElem_toArray, List.getElem_cons_succ, List.getElem_cons_zero]
                              go_simp
                              (go_at_call 29; refine (refMinus_calls _ _ _ _ _ _ _).mono ?_; rintro e wr3 ⟨rfl, kr3⟩)
                              try go_wp2_with fail
                              refine hK.out _ _ ?_ (fun hHr3 => ?_)
                              · (try dsimp only); exact HK.out _ (Only.of_kept (((Kept.refl w10).drew.trans kq6).trans kr3))
                              clear hK K hH6
                              try simp only [Act.put, List.setIfInBounds_toArray, List.set_cons_zero, List.set_cons_succ, List.getElem_toArray, List.getElem_cons_succ, List.getElem_cons_zero]
                              refine wpAnyH_ready (rs := [14]) (by kernel_rfl) (by simp) ?_
                              refine AllReadyH.cons rfl (fun K hK => ?_) AllReadyH.nil
                              rw [if_pos (by rfl)]
                              simp only [List.getElem_toArray, List.getElem_cons_succ, List.getElem_cons_zero]
                              go_simp
                              (go_at_call 39; refine (refClamp_calls _ _ _ _ _ (by decide)).mono ?_; rintro e wr4 ⟨rfl, kr4⟩)
                              try go_wp2_with fail
                              refine hK.out _ _ ?_ (fun hHr4 => ?_)
                              · (try dsimp only); exact HK.out _ (Only.of_kept ((((Kept.refl w10).drew.trans kq6).trans kr3).trans kr4))
                              clear hK K hHr3
                              try simp only [Act.put, List.setIfInBounds_toArray, List.set_cons_zero, List.set_cons_succ, List.getElem_toArray, List.getElem_cons_succ, List.getElem_cons_zero]
                              simp only [bound_place]
                              have K7 : Hid (Kept w10 wr4) := (((Kept.refl w10).drew.trans kq6).trans kr3).trans kr4
                              clear kr3 kr4
                              obtain ⟨e6, e7, e8⟩ := HLD.out _ K7.out
                              have f6 := kept_frozen K7.out (HOW.out.2.free (i * 17 + 6)); have f7 := kept_frozen K7.out (HOW.out.2.free (i * 17 + 7)); have f8 := kept_frozen K7.out (HOW.out.2.free (i * 17 + 8))
                              refine wpAnyH_take (i := 15) (v := ?_) rfl (by kernel_rfl) (by kernel_rfl) (by kernel_rfl) (fun _ _ _ h => h) (Or.inl ⟨by kernel_rfl, ?_⟩) (by assumption) ?_
                              rotate_left
                              · intro w'' hSw; (try dsimp only at hSw); simp only [List.getElem_toArray, List.getElem_cons_succ, List.getElem_cons_zero]; (go_simp <;> with_reducible rfl)
                              try simp only [Act.put, List.setIfInBounds_toArray, List.set_cons_zero, List.set_cons_succ, List.getElem_toArray, List.getElem_cons_succ, List.getElem_cons_zero]
                              refine wpAnyH_take (i := 16) (v := ?_) rfl (by kernel_rfl) (by kernel_rfl) (by kernel_rfl) (fun _ _ _ h => h) (Or.inl ⟨by kernel_rfl, ?_⟩) (by assumption) ?_
                              rotate_left
                              · intro w'' hSw; (try dsimp only at hSw); simp only [List.getElem_toArray, List.getElem_cons_succ, List.getElem_cons_zero]; (go_simp <;> with_reducible rfl)
                              try simp only [Act.put, List.setIfInBounds_toArray, List.set_cons_zero, List.set_cons_succ, List.getElem_toArray, List.getElem_cons_succ, List.getElem_cons_zero]
                              refine wpAnyH_ready (rs := [17]) (by kernel_rfl) (by simp) ?_
                              refine AllReadyH.cons rfl (fun K hK => ?_) AllReadyH.nil
                              rw [if_pos (by rfl)]
                              simp only [List.getElem_toArray, List.getElem_cons_succ, List.getElem_cons_zero]
                              go_simp
                              refine hK.out _ _ ?_ (fun hHr5 => ?_)
                              · (try dsimp only); exact HK.out _ ((((Only.of_kept K7.out).setCell (p := ⟨g, i * 17 + 6, none⟩) (Or.inl (by simp)) _).setCell (p := ⟨g, i * 17 + 7, none⟩) (Or.inl (by simp)) _).setCell (p := ⟨g, i * 17 + 8, none⟩) (Or.inl (by simp)) _)
                              clear hK K
                              try simp only [Act.put, List.setIfInBounds_toArray, List.set_cons_zero, List.set_cons_succ, List.getElem_toArray, List.getElem_cons_succ, List.getElem_cons_zero]
                              refine wpAnyH_done (by kernel_rfl) ?_ _
                              go_wp2_with fail
                              go_meet
                              case rel =>
                                refine ⟨?_, (((Only.of_kept K7.out).setCell (p := ⟨g, i * 17 + 6, none⟩) (Or.inl (by simp)) _).setCell (p := ⟨g, i * 17 + 7, none⟩) (Or.inl (by simp)) _).setCell (p := ⟨g, i * 17 + 8, none⟩) (Or.inl (by simp)) _⟩
                                have h1 := (HOW.out.2.only (Only.of_kept (D := []) K7.out) (by simp)).putAt hin (cl 65536000 (sub q.ax (mul t.way.x (mul dd x)))) (cl 65536000 (sub q.ay (mul t.way.y (mul dd x)))) (cl 65536000 (sub q.az (mul t.way.z (mul dd x))))
                                rw [HQ.out] at h1
                                show OwnB _ g n (upd C i (backX (C i) t.way (mul dd x)))
                                rw [HQ.out]; exact h1
                          · rw [if_pos (by rfl)]
                            simp only [List.getElem_toArray, List.getElem_cons_succ, List.getElem_cons_zero]
                            go_simp
                            (go_at_call 31; refine (refTimes_calls _ _ _ _ _).mono ?_; rintro e wq7 ⟨rfl, kq7⟩)
                            try go_wp2_with fail
                            refine hK.out _ _ ?_ (fun hH7 => ?_)
                            · (try dsimp only); exact HK.out _ (Only.of_kept ((Kept.refl w10).drew.trans kq7))
                            clear hK K hH4
                            try simp only [Act.put, List.setIfInBounds_toArray, List.set_cons_zero, List.set_cons_succ, List.getElem_toArray, List.getElem_cons_succ, List.getElem_cons_zero]
                            refine wpAnyH_ready (rs := [6]) (by kernel_rfl) (by simp) ?_
                            refine AllReadyH.cons rfl (fun K hK => ?_) AllReadyH.nil
                            rw [if_pos (by rfl)]
                            obtain ⟨l0, l1, l2⟩ := HLD.out _ ((Kept.refl w10).drew.trans kq7)
                            simp only [List.getElem_toArray, List.getElem_cons_succ, List.getElem_cons_zero]
                            go_simp
                            clear l0 l1 l2
                            refine hK.out _ _ ?_ (fun hH8 => ?_)
                            · (try dsimp only); exact HK.out _ (Only.of_kept ((Kept.refl w10).drew.trans kq7))
                            clear hK K hH7
                            try simp only [Act.put, List.setIfInBounds_toArray, List.set_cons_zero, List.set_cons_succ, List.getElem_toArray, List.getElem_cons_succ, List.getElem_cons_zero]
                            as_aux_lemma =>
                              refine wpAnyH_ready (rs := [13]) (by kernel_rfl) (by simp) ?_
                              refine AllReadyH.cons rfl (fun K hK => ?_) AllReadyH.nil
                              rw [if_pos (by rfl)]
                              simp only [List.getElem_toArray, List.getElem_cons_succ, List.getElem_cons_zero]
                              go_simp
                              (go_at_call 29; refine (refMinus_calls _ _ _ _ _ _ _).mono ?_; rintro e wr3 ⟨rfl, kr3⟩)
                              try go_wp2_with fail
                              refine hK.out _ _ ?_ (fun hHr3 => ?_)
                              · (try dsimp only); exact HK.out _ (Only.of_kept (((Kept.refl w10).drew.trans kq7).trans kr3))
                              clear hK K hH8
                              try simp only [Act.put, List.setIfInBounds_toArray, List.set_cons_zero, List.set_cons_succ, List.getElem_toArray, List.getElem_cons_succ, List.getElem_cons_zero]
                              refine wpAnyH_ready (rs := [14]) (by kernel_rfl) (by simp) ?_
                              refine AllReadyH.cons rfl (fun K hK => ?_) AllReadyH.nil
                              rw [if_pos (by rfl)]
                              simp only [List.getElem_toArray, List.getElem_cons_succ, List.getElem_cons_zero]
                              go_simp
                              (go_at_call 39; refine (refClamp_calls _ _ _ _ _ (by decide)).mono ?_; rintro e wr4 ⟨rfl, kr4⟩)
                              try go_wp2_with fail
                              refine hK.out _ _ ?_ (fun hHr4 => ?_)
                              · (try dsimp only); exact HK.out _ (Only.of_kept ((((Kept.refl w10).drew.trans kq7).trans kr3).trans kr4))
                              clear hK K hHr3
                              try simp only [Act.put, List.setIfInBounds_toArray, List.set_cons_zero, List.set_cons_succ, List.getElem_toArray, List.getElem_cons_succ, List.getElem_cons_zero]
                              simp only [bound_place]
                              have K7 : Hid (Kept w10 wr4) := (((Kept.refl w10).drew.trans kq7).trans kr3).trans kr4
                              clear kr3 kr4
                              obtain ⟨e6, e7, e8⟩ := HLD.out _ K7.out
                              have f6 := kept_frozen K7.out (HOW.out.2.free (i * 17 + 6)); have f7 := kept_frozen K7.out (HOW.out.2.free (i * 17 + 7)); have f8 := kept_frozen K7.out (HOW.out.2.free (i * 17 + 8))
                              refine wpAnyH_take (i := 15) (v := ?_) rfl (by kernel_rfl) (by kernel_rfl) (by kernel_rfl) (fun _ _ _ h => h) (Or.inl ⟨by kernel_rfl, ?_⟩) (by assumption) ?_
                              rotate_left
                              · intro w'' hSw; (try dsimp only at hSw); simp only [List.getElem_toArray, List.getElem_cons_succ, List.getElem_cons_zero]; (go_simp <;> with_reducible rfl)
                              try simp only [Act.put, List.setIfInBounds_toArray, List.set_cons_zero, List.set_cons_succ, List.getElem_toArray, List.getElem_cons_succ, List.getElem_cons_zero]
                              refine wpAnyH_take (i := 16) (v := ?_) rfl (by kernel_rfl) (by kernel_rfl) (by kernel_rfl) (fun _ _ _ h => h) (Or.inl ⟨by kernel_rfl, ?_⟩) (by assumption) ?_
                              rotate_left
                              · intro w'' hSw; (try dsimp only at hSw); simp only [List.getElem_toArray, List.getElem_cons_succ, List.getElem_cons_zero]; (go_simp <;> with_reducible rfl)
                              try simp only [Act.put, List.setIfInBounds_toArray, List.set_cons_zero, List.set_cons_succ, List.getElem_toArray, List.getElem_cons_succ, List.getElem_cons_zero]
                              refine wpAnyH_ready (rs := [17]) (by kernel_rfl) (by simp) ?_
                              refine AllReadyH.cons rfl (fun K hK => ?_) AllReadyH.nil
                              rw [if_pos (by rfl)]
                              simp only [List.getElem_toArray, List.getElem_cons_succ, List.getElem_cons_zero]
                              go_simp
                              refine hK.out _ _ ?_ (fun hHr5 => ?_)
                              · (try dsimp only); exact HK.out _ ((((Only.of_kept K7.out).setCell (p := ⟨g, i * 17 + 6, none⟩) (Or.inl (by simp)) _).setCell (p := ⟨g, i * 17 + 7, none⟩) (Or.inl (by simp)) _).setCell (p := ⟨g, i * 17 + 8, none⟩) (Or.inl (by simp)) _)
                              clear hK K
                              try simp only [Act.put, List.setIfInBounds_toArray, List.set_cons_zero, List.set_cons_succ, List.getElem_toArray, List.getElem_cons_succ, List.getElem_cons_zero]
                              refine wpAnyH_done (by kernel_rfl) ?_ _
                              go_wp2_with fail
                              go_meet
                              case rel =>
                                refine ⟨?_, (((Only.of_kept K7.out).setCell (p := ⟨g, i * 17 + 6, none⟩) (Or.inl (by simp)) _).setCell (p := ⟨g, i * 17 + 7, none⟩) (Or.inl (by simp)) _).setCell (p := ⟨g, i * 17 + 8, none⟩) (Or.inl (by simp)) _⟩
                                have h1 := (HOW.out.2.only (Only.of_kept (D := []) K7.out) (by simp)).putAt hin (cl 65536000 (sub q.ax (mul t.way.x (mul dd x)))) (cl 65536000 (sub q.ay (mul t.way.y (mul dd x)))) (cl 65536000 (sub q.az (mul t.way.z (mul dd x))))
                                rw [HQ.out] at h1
                                show OwnB _ g n (upd C i (backX (C i) t.way (mul dd x)))
                                rw [HQ.out]; exact h1
                    case rest =>
                      obtain ⟨hO11, o11⟩ := hcut
                      obtain ⟨C1, hC1⟩ : ∃ C1, C1 = upd C i (backX (C i) t.way (mul dd x)) := ⟨_, rfl⟩
                      rw [← hC1] at hO11
                      have HC1 : Hid (C1 = upd C i (backX (C i) t.way (mul dd x)) ∧ Only [g] w10 wc) := ⟨hC1, o11⟩
                      have HOW2 : Hid (True ∧ OwnB wc g n C1) := ⟨trivial, hO11⟩
                      have HTA2 : Hid (TouchAt wc kt t ∧ kt ≠ g) := ⟨HTA.out.1.only o11 (by simp only [List.mem_singleton]; exact HTA.out.2), HTA.out.2⟩
                      clear hC1 hO11 o11 HOW HTA
                      obtain ⟨w11, hw11⟩ : ∃ w11, w11 = wc := ⟨wc, rfl⟩
                      subst hw11
                      have HOW := HOW2
                      have HTA := HTA2
                      clear HOW2 HTA2
                      go_upto_region 12 with fail
                      as_aux_lemma =>
                        obtain ⟨q, hq⟩ : ∃ q, q = C1 k := ⟨_, rfl⟩
                        have HQ : Hid (q = C1 k) := hq
                        clear hq
                        have HLD : Hid (∀ w', Kept w11 w' → w'.cell? ⟨g, k * 17 + 6, none⟩ = some (.int .i64 (q.ax)) ∧ w'.cell? ⟨g, k * 17 + 7, none⟩ = some (.int .i64 (q.ay)) ∧ w'.cell? ⟨g, k * 17 + 8, none⟩ = some (.int .i64 (q.az))) := fun w' o => by
                          have c6 := HOW.out.2.cell hkn (show 6 < 17 by omega); have c7 := HOW.out.2.cell hkn (show 7 < 17 by omega); have c8 := HOW.out.2.cell hkn (show 8 < 17 by omega)
                          rw [← HQ.out] at c6 c7 c8
                          exact ⟨kept_cell o c6, kept_cell o c7, kept_cell o c8⟩
                        have HK : Hid (∀ w', Only [g] w11 w' → Only [g] w11 w' ∧ w'.cell? ⟨kt, 2, none⟩ = some (.int .i64 (t.way.x)) ∧ w'.cell? ⟨kt, 3, none⟩ = some (.int .i64 (t.way.y)) ∧ w'.cell? ⟨kt, 4, none⟩ = some (.int .i64 (t.way.z))) := fun w' o => ⟨o, cell_only o (HTA.out.1.off 2) (by simp only [List.mem_singleton]; exact HTA.out.2), cell_only o (HTA.out.1.off 3) (by simp only [List.mem_singleton]; exact HTA.out.2), cell_only o (HTA.out.1.off 4) (by simp only [List.mem_singleton]; exact HTA.out.2)⟩
                        refine wp_region_held_drew (S := fun w' => Only [g] w11 w' ∧ w'.cell? ⟨kt, 2, none⟩ = some (.int .i64 (t.way.x)) ∧ w'.cell? ⟨kt, 3, none⟩ = some (.int .i64 (t.way.y)) ∧ w'.cell? ⟨kt, 4, none⟩ = some (.int .i64 (t.way.z))) (by kernel_rfl) ?_ (fun hH0 => ?_)
                        · (try dsimp only); exact HK.out _ (Only.refl _ _).drew
                        refine wpAnyH_take (i := 0) (v := ?_) rfl (by kernel_rfl) (by kernel_rfl) (by kernel_rfl) (fun _ _ _ h => h) (Or.inl ⟨by kernel_rfl, ?_⟩) (by assumption) ?_
                        rotate_left
                        · intro w'' hSw; (try dsimp only at hSw); simp only [List.getElem_toArray, List.getElem_cons_succ, List.getElem_cons_zero]; (go_simp <;> with_reducible rfl)
                        try simp only [Act.put, List.setIfInBounds_toArray, List.set_cons_zero, List.set_cons_succ, List.getElem_toArray, List.getElem_cons_succ, List.getElem_cons_zero]
                        refine wpAnyH_take (i := 1) (v := ?_) rfl (by kernel_rfl) (by kernel_rfl) (by kernel_rfl) (fun _ _ _ h => h) (Or.inl ⟨by kernel_rfl, ?_⟩) (by assumption) ?_
                        rotate_left
                        · intro w'' hSw; (try dsimp only at hSw); simp only [List.getElem_toArray, List.getElem_cons_succ, List.getElem_cons_zero]; (go_simp <;> with_reducible rfl)
                        try simp only [Act.put, List.setIfInBounds_toArray, List.set_cons_zero, List.set_cons_succ, List.getElem_toArray, List.getElem_cons_succ, List.getElem_cons_zero]
                        refine wpAnyH_take (i := 2) (v := ?_) rfl (by kernel_rfl) (by kernel_rfl) (by kernel_rfl) (fun _ _ _ h => h) (Or.inl ⟨by kernel_rfl, ?_⟩) (by assumption) ?_
                        rotate_left
                        · intro w'' hSw; (try dsimp only at hSw); simp only [List.getElem_toArray, List.getElem_cons_succ, List.getElem_cons_zero]; (go_simp <;> with_reducible rfl)
                        try simp only [Act.put, List.setIfInBounds_toArray, List.set_cons_zero, List.set_cons_succ, List.getElem_toArray, List.getElem_cons_succ, List.getElem_cons_zero]
                        refine wpAnyH_take (i := 3) (v := ?_) rfl (by kernel_rfl) (by kernel_rfl) (by kernel_rfl) (fun _ _ _ h => h) (Or.inl ⟨by kernel_rfl, ?_⟩) (by assumption) ?_
                        rotate_left
                        · intro w'' hSw; (try dsimp only at hSw); simp only [List.getElem_toArray, List.getElem_cons_succ, List.getElem_cons_zero]; (go_simp <;> with_reducible rfl)
                        try simp only [Act.put, List.setIfInBounds_toArray, List.set_cons_zero, List.set_cons_succ, List.getElem_toArray, List.getElem_cons_succ, List.getElem_cons_zero]
                        refine wpAnyH_take (i := 4) (v := ?_) rfl (by kernel_rfl) (by kernel_rfl) (by kernel_rfl) (fun _ _ _ h => h) (Or.inl ⟨by kernel_rfl, ?_⟩) (by assumption) ?_
                        rotate_left
                        · intro w'' hSw; (try dsimp only at hSw); simp only [List.getElem_toArray, List.getElem_cons_succ, List.getElem_cons_zero]; (go_simp <;> with_reducible rfl)
                        try simp only [Act.put, List.setIfInBounds_toArray, List.set_cons_zero, List.set_cons_succ, List.getElem_toArray, List.getElem_cons_succ, List.getElem_cons_zero]
                        refine wpAnyH_take (i := 5) (v := ?_) rfl (by kernel_rfl) (by kernel_rfl) (by kernel_rfl) (fun _ _ _ h => h) (Or.inl ⟨by kernel_rfl, ?_⟩) (by assumption) ?_
                        rotate_left
                        · intro w'' hSw; (try dsimp only at hSw); simp only [List.getElem_toArray, List.getElem_cons_succ, List.getElem_cons_zero]; (go_simp <;> with_reducible rfl)
                        try simp only [Act.put, List.setIfInBounds_toArray, List.set_cons_zero, List.set_cons_succ, List.getElem_toArray, List.getElem_cons_succ, List.getElem_cons_zero]
                        refine wpAnyH_take (i := 7) (v := ?_) rfl (by kernel_rfl) (by kernel_rfl) (by kernel_rfl) (fun _ _ _ h => h) (Or.inl ⟨by kernel_rfl, ?_⟩) (by assumption) ?_
                        rotate_left
                        · intro w'' hSw; (try dsimp only at hSw); simp only [List.getElem_toArray, List.getElem_cons_succ, List.getElem_cons_zero]; (go_simp <;> with_reducible rfl)
                        try simp only [Act.put, List.setIfInBounds_toArray, List.set_cons_zero, List.set_cons_succ, List.getElem_toArray, List.getElem_cons_succ, List.getElem_cons_zero]
                        refine wpAnyH_take (i := 8) (v := ?_) rfl (by kernel_rfl) (by kernel_rfl) (by kernel_rfl) (fun _ _ _ h => h) (Or.inl ⟨by kernel_rfl, ?_⟩) (by assumption) ?_
                        rotate_left
                        · intro w'' hSw; (try dsimp only at hSw); simp only [List.getElem_toArray, List.getElem_cons_succ, List.getElem_cons_zero]; (go_simp <;> with_reducible rfl)
                        try simp only [Act.put, List.setIfInBounds_toArray, List.set_cons_zero, List.set_cons_succ, List.getElem_toArray, List.getElem_cons_succ, List.getElem_cons_zero]
                        refine wpAnyH_take (i := 9) (v := ?_) rfl (by kernel_rfl) (by kernel_rfl) (by kernel_rfl) (fun _ _ _ h => h) (Or.inl ⟨by kernel_rfl, ?_⟩) (by assumption) ?_
                        rotate_left
                        · intro w'' hSw; (try dsimp only at hSw); simp only [List.getElem_toArray, List.getElem_cons_succ, List.getElem_cons_zero]; (go_simp <;> with_reducible rfl)
                        try simp only [Act.put, List.setIfInBounds_toArray, List.set_cons_zero, List.set_cons_succ, List.getElem_toArray, List.getElem_cons_succ, List.getElem_cons_zero]
                        refine wpAnyH_take (i := 10) (v := ?_) rfl (by kernel_rfl) (by kernel_rfl) (by kernel_rfl) (fun _ _ _ h => h) (Or.inl ⟨by kernel_rfl, ?_⟩) (by assumption) ?_
                        rotate_left
                        · intro w'' hSw; (try dsimp only at hSw); simp only [List.getElem_toArray, List.getElem_cons_succ, List.getElem_cons_zero]; (go_simp <;> with_reducible rfl)
                        try simp only [Act.put, List.setIfInBounds_toArray, List.set_cons_zero, List.set_cons_succ, List.getElem_toArray, List.getElem_cons_succ, List.getElem_cons_zero]
                        refine wpAnyH_ready (rs := [6, 11]) (by kernel_rfl) (by simp) ?_
                        refine AllReadyH.cons rfl (fun K hK => ?_) (AllReadyH.cons rfl (fun K hK => ?_) AllReadyH.nil)
                        · rw [if_pos (by rfl)]
                          obtain ⟨l0, l1, l2⟩ := HLD.out _ (Kept.refl w11).drew
                          simp only [List.getElem_toArray, List.getElem_cons_succ, List.getElem_cons_zero]
                          go_simp
                          clear l0 l1 l2
                          refine hK.out _ _ ?_ (fun hH1 => ?_)
                          · (try dsimp only); exact HK.out _ (Only.of_kept (Kept.refl w11).drew)
                          clear hK K hH0
                          try simp only [Act.put, List.setIfInBounds_toArray, List.set_cons_zero, List.set_cons_succ, List.getElem_toArray, List.getElem_cons_succ, List.getElem_cons_zero]
                          refine wpAnyH_ready (rs := [11]) (by kernel_rfl) (by simp) ?_
                          refine AllReadyH.cons rfl (fun K hK => ?_) AllReadyH.nil
                          rw [if_pos (by rfl)]
                          simp only [List.getElem_toArray, List.getElem_cons_succ, List.getElem_cons_zero]
                          go_simp
                          (go_at_call 21; refine (refMul_calls _ _ _).mono ?_; rintro e wq2 ⟨rfl, hq⟩; subst hq)
                          try go_wp2_with fail
                          refine hK.out _ _ ?_ (fun hH2 => ?_)
                          · (try dsimp only); exact HK.out _ (Only.of_kept (Kept.refl w11).drew)
                          clear hK K hH1
                          try simp only [Act.put, List.setIfInBounds_toArray, List.set_cons_zero, List.set_cons_succ, List.getElem_toArray, List.getElem_cons_succ, List.getElem_cons_zero]
                          refine wpAnyH_ready (rs := [12]) (by kernel_rfl) (by simp) ?_
                          refine AllReadyH.cons rfl (fun K hK => ?_) AllReadyH.nil
                          rw [if_pos (by rfl)]
                          simp only [List.getElem_toArray, List.getElem_cons_succ, List.getElem_cons_zero]
                          go_simp
                          (go_at_call 31; refine (refTimes_calls _ _ _ _ _).mono ?_; rintro e wq3 ⟨rfl, kq3⟩)
                          try go_wp2_with fail
                          refine hK.out _ _ ?_ (fun hH3 => ?_)
                          · (try dsimp only); exact HK.out _ (Only.of_kept ((Kept.refl w11).drew.trans kq3))
                          clear hK K hH2
                          try simp only [Act.put, List.setIfInBounds_toArray, List.set_cons_zero, List.set_cons_succ, List.getElem_toArray, List.getElem_cons_succ, List.getElem_cons_zero]
                          as_aux_lemma =>
                            refine wpAnyH_ready (rs := [13]) (by kernel_rfl) (by simp) ?_
                            refine AllReadyH.cons rfl (fun K hK => ?_) AllReadyH.nil
                            rw [if_pos (by rfl)]
                            simp only [List.getElem_toArray, List.getElem_cons_succ, List.getElem_cons_zero]
                            go_simp
                            (go_at_call 27; refine (refPlus_calls _ _ _ _ _ _ _).mono ?_; rintro e wr3 ⟨rfl, kr3⟩)
                            try go_wp2_with fail
                            refine hK.out _ _ ?_ (fun hHr3 => ?_)
                            · (try dsimp only); exact HK.out _ (Only.of_kept (((Kept.refl w11).drew.trans kq3).trans kr3))
                            clear hK K hH3
                            try simp only [Act.put, List.setIfInBounds_toArray, List.set_cons_zero, List.set_cons_succ, List.getElem_toArray, List.getElem_cons_succ, List.getElem_cons_zero]
                            refine wpAnyH_ready (rs := [14]) (by kernel_rfl) (by simp) ?_
                            refine AllReadyH.cons rfl (fun K hK => ?_) AllReadyH.nil
                            rw [if_pos (by rfl)]
                            simp only [List.getElem_toArray, List.getElem_cons_succ, List.getElem_cons_zero]
                            go_simp
                            (go_at_call 39; refine (refClamp_calls _ _ _ _ _ (by decide)).mono ?_; rintro e wr4 ⟨rfl, kr4⟩)
                            try go_wp2_with fail
                            refine hK.out _ _ ?_ (fun hHr4 => ?_)
                            · (try dsimp only); exact HK.out _ (Only.of_kept ((((Kept.refl w11).drew.trans kq3).trans kr3).trans kr4))
                            clear hK K hHr3
                            try simp only [Act.put, List.setIfInBounds_toArray, List.set_cons_zero, List.set_cons_succ, List.getElem_toArray, List.getElem_cons_succ, List.getElem_cons_zero]
                            simp only [bound_place]
                            have K7 : Hid (Kept w11 wr4) := (((Kept.refl w11).drew.trans kq3).trans kr3).trans kr4
                            clear kr3 kr4
                            obtain ⟨e6, e7, e8⟩ := HLD.out _ K7.out
                            have f6 := kept_frozen K7.out (HOW.out.2.free (k * 17 + 6)); have f7 := kept_frozen K7.out (HOW.out.2.free (k * 17 + 7)); have f8 := kept_frozen K7.out (HOW.out.2.free (k * 17 + 8))
                            refine wpAnyH_take (i := 15) (v := ?_) rfl (by kernel_rfl) (by kernel_rfl) (by kernel_rfl) (fun _ _ _ h => h) (Or.inl ⟨by kernel_rfl, ?_⟩) (by assumption) ?_
                            rotate_left
                            · intro w'' hSw; (try dsimp only at hSw); simp only [List.getElem_toArray, List.getElem_cons_succ, List.getElem_cons_zero]; (go_simp <;> with_reducible rfl)
                            try simp only [Act.put, List.setIfInBounds_toArray, List.set_cons_zero, List.set_cons_succ, List.getElem_toArray, List.getElem_cons_succ, List.getElem_cons_zero]
                            refine wpAnyH_take (i := 16) (v := ?_) rfl (by kernel_rfl) (by kernel_rfl) (by kernel_rfl) (fun _ _ _ h => h) (Or.inl ⟨by kernel_rfl, ?_⟩) (by assumption) ?_
                            rotate_left
                            · intro w'' hSw; (try dsimp only at hSw); simp only [List.getElem_toArray, List.getElem_cons_succ, List.getElem_cons_zero]; (go_simp <;> with_reducible rfl)
                            try simp only [Act.put, List.setIfInBounds_toArray, List.set_cons_zero, List.set_cons_succ, List.getElem_toArray, List.getElem_cons_succ, List.getElem_cons_zero]
                            refine wpAnyH_ready (rs := [17]) (by kernel_rfl) (by simp) ?_
                            refine AllReadyH.cons rfl (fun K hK => ?_) AllReadyH.nil
                            rw [if_pos (by rfl)]
                            simp only [List.getElem_toArray, List.getElem_cons_succ, List.getElem_cons_zero]
                            go_simp
                            refine hK.out _ _ ?_ (fun hHr5 => ?_)
                            · (try dsimp only); exact HK.out _ ((((Only.of_kept K7.out).setCell (p := ⟨g, k * 17 + 6, none⟩) (Or.inl (by simp)) _).setCell (p := ⟨g, k * 17 + 7, none⟩) (Or.inl (by simp)) _).setCell (p := ⟨g, k * 17 + 8, none⟩) (Or.inl (by simp)) _)
                            clear hK K
                            try simp only [Act.put, List.setIfInBounds_toArray, List.set_cons_zero, List.set_cons_succ, List.getElem_toArray, List.getElem_cons_succ, List.getElem_cons_zero]
                            refine wpAnyH_done (by kernel_rfl) ?_ _
                            have HFN : Hid (OwnB (((wr4.setCell ⟨g, k * 17 + 6, none⟩ (.int .i64 (cl 65536000 (add q.ax (mul t.way.x (mul dd y)))))).setCell ⟨g, k * 17 + 7, none⟩ (.int .i64 (cl 65536000 (add q.ay (mul t.way.y (mul dd y)))))).setCell ⟨g, k * 17 + 8, none⟩ (.int .i64 (cl 65536000 (add q.az (mul t.way.z (mul dd y)))))) g n (upd C1 k (forthX (C1 k) t.way (mul dd y))) ∧ Only [g] w11 (((wr4.setCell ⟨g, k * 17 + 6, none⟩ (.int .i64 (cl 65536000 (add q.ax (mul t.way.x (mul dd y)))))).setCell ⟨g, k * 17 + 7, none⟩ (.int .i64 (cl 65536000 (add q.ay (mul t.way.y (mul dd y)))))).setCell ⟨g, k * 17 + 8, none⟩ (.int .i64 (cl 65536000 (add q.az (mul t.way.z (mul dd y))))))) := by
                              refine ⟨?_, (((Only.of_kept K7.out).setCell (p := ⟨g, k * 17 + 6, none⟩) (Or.inl (by simp)) _).setCell (p := ⟨g, k * 17 + 7, none⟩) (Or.inl (by simp)) _).setCell (p := ⟨g, k * 17 + 8, none⟩) (Or.inl (by simp)) _⟩
                              have h1 := (HOW.out.2.only (Only.of_kept (D := []) K7.out) (by simp)).putAt hkn (cl 65536000 (add q.ax (mul t.way.x (mul dd y)))) (cl 65536000 (add q.ay (mul t.way.y (mul dd y)))) (cl 65536000 (add q.az (mul t.way.z (mul dd y))))
                              rw [HQ.out] at h1
                              show OwnB _ g n (upd C1 k (forthX (C1 k) t.way (mul dd y)))
                              rw [HQ.out]; exact h1
                            clear e6 e7 e8 f6 f7 f8 K7 hHr5 hHr4
                            have HFI : Hid (RW w (some ⟨g, 0, none⟩) g n (stepX n C t) (((wr4.setCell ⟨g, k * 17 + 6, none⟩ (.int .i64 (cl 65536000 (add q.ax (mul t.way.x (mul dd y)))))).setCell ⟨g, k * 17 + 7, none⟩ (.int .i64 (cl 65536000 (add q.ay (mul t.way.y (mul dd y)))))).setCell ⟨g, k * 17 + 8, none⟩ (.int .i64 (cl 65536000 (add q.az (mul t.way.z (mul dd y))))))) := by
                              have e1 : stepX n C t = upd C1 k (forthX (C1 k) t.way (mul dd y)) := by rw [HE1.out, HC1.out.1, HDD.out]; rfl
                              rw [e1]
                              exact HRW7.out.1.turn rfl HFN.out.1 (HC1.out.2.trans HFN.out.2)
                            clear HFN
                            go_wp2_with fail
                            go_roundg (m - (j + 1))
                            case measure => have := H2.out.2; omega
                            case rel => exact ⟨j + 1, by go_num, ⟨by omega, rfl⟩, by show RW w _ g n (stepX n (placesX n B T j) (T j)) _; rw [← HT.out, ← HC.out]; exact HFI.out⟩
                        · rw [if_pos (by rfl)]
                          simp only [List.getElem_toArray, List.getElem_cons_succ, List.getElem_cons_zero]
                          go_simp
                          (go_at_call 21; refine (refMul_calls _ _ _).mono ?_; rintro e wq4 ⟨rfl, hq⟩; subst hq)
                          try go_wp2_with fail
                          refine hK.out _ _ ?_ (fun hH4 => ?_)
                          · (try dsimp only); exact HK.out _ (Only.of_kept (Kept.refl w11).drew)
                          clear hK K hH0
                          try simp only [Act.put, List.setIfInBounds_toArray, List.set_cons_zero, List.set_cons_succ, List.getElem_toArray, List.getElem_cons_succ, List.getElem_cons_zero]
                          refine wpAnyH_ready (rs := [6, 12]) (by kernel_rfl) (by simp) ?_
                          refine AllReadyH.cons rfl (fun K hK => ?_) (AllReadyH.cons rfl (fun K hK => ?_) AllReadyH.nil)
                          · rw [if_pos (by rfl)]
                            obtain ⟨l0, l1, l2⟩ := HLD.out _ (Kept.refl w11).drew
                            simp only [List.getElem_toArray, List.getElem_cons_succ, List.getElem_cons_zero]
                            go_simp
                            clear l0 l1 l2
                            refine hK.out _ _ ?_ (fun hH5 => ?_)
                            · (try dsimp only); exact HK.out _ (Only.of_kept (Kept.refl w11).drew)
                            clear hK K hH4
                            try simp only [Act.put, List.setIfInBounds_toArray, List.set_cons_zero, List.set_cons_succ, List.getElem_toArray, List.getElem_cons_succ, List.getElem_cons_zero]
                            refine wpAnyH_ready (rs := [12]) (by kernel_rfl) (by simp) ?_
                            refine AllReadyH.cons rfl (fun K hK => ?_) AllReadyH.nil
                            rw [if_pos (by rfl)]
                            simp only [List.getElem_toArray, List.getElem_cons_succ, List.getElem_cons_zero]
                            go_simp
                            (go_at_call 31; refine (refTimes_calls _ _ _ _ _).mono ?_; rintro e wq6 ⟨rfl, kq6⟩)
                            try go_wp2_with fail
                            refine hK.out _ _ ?_ (fun hH6 => ?_)
                            · (try dsimp only); exact HK.out _ (Only.of_kept ((Kept.refl w11).drew.trans kq6))
                            clear hK K hH5
                            try simp only [Act.put, List.setIfInBounds_toArray, List.set_cons_zero, List.set_cons_succ, List.getElem_toArray, List.getElem_cons_succ, List.getElem_cons_zero]
                            as_aux_lemma =>
                              refine wpAnyH_ready (rs := [13]) (by kernel_rfl) (by simp) ?_
                              refine AllReadyH.cons rfl (fun K hK => ?_) AllReadyH.nil
                              rw [if_pos (by rfl)]
                              simp only [List.getElem_toArray, List.getElem_cons_succ, List.getElem_cons_zero]
                              go_simp
                              (go_at_call 27; refine (refPlus_calls _ _ _ _ _ _ _).mono ?_; rintro e wr3 ⟨rfl, kr3⟩)
                              try go_wp2_with fail
                              refine hK.out _ _ ?_ (fun hHr3 => ?_)
                              · (try dsimp only); exact HK.out _ (Only.of_kept (((Kept.refl w11).drew.trans kq6).trans kr3))
                              clear hK K hH6
                              try simp only [Act.put, List.setIfInBounds_toArray, List.set_cons_zero, List.set_cons_succ, List.getElem_toArray, List.getElem_cons_succ, List.getElem_cons_zero]
                              refine wpAnyH_ready (rs := [14]) (by kernel_rfl) (by simp) ?_
                              refine AllReadyH.cons rfl (fun K hK => ?_) AllReadyH.nil
                              rw [if_pos (by rfl)]
                              simp only [List.getElem_toArray, List.getElem_cons_succ, List.getElem_cons_zero]
                              go_simp
                              (go_at_call 39; refine (refClamp_calls _ _ _ _ _ (by decide)).mono ?_; rintro e wr4 ⟨rfl, kr4⟩)
                              try go_wp2_with fail
                              refine hK.out _ _ ?_ (fun hHr4 => ?_)
                              · (try dsimp only); exact HK.out _ (Only.of_kept ((((Kept.refl w11).drew.trans kq6).trans kr3).trans kr4))
                              clear hK K hHr3
                              try simp only [Act.put, List.setIfInBounds_toArray, List.set_cons_zero, List.set_cons_succ, List.getElem_toArray, List.getElem_cons_succ, List.getElem_cons_zero]
                              simp only [bound_place]
                              have K7 : Hid (Kept w11 wr4) := (((Kept.refl w11).drew.trans kq6).trans kr3).trans kr4
                              clear kr3 kr4
                              obtain ⟨e6, e7, e8⟩ := HLD.out _ K7.out
                              have f6 := kept_frozen K7.out (HOW.out.2.free (k * 17 + 6)); have f7 := kept_frozen K7.out (HOW.out.2.free (k * 17 + 7)); have f8 := kept_frozen K7.out (HOW.out.2.free (k * 17 + 8))
                              refine wpAnyH_take (i := 15) (v := ?_) rfl (by kernel_rfl) (by kernel_rfl) (by kernel_rfl) (fun _ _ _ h => h) (Or.inl ⟨by kernel_rfl, ?_⟩) (by assumption) ?_
                              rotate_left
                              · intro w'' hSw; (try dsimp only at hSw); simp only [List.getElem_toArray, List.getElem_cons_succ, List.getElem_cons_zero]; (go_simp <;> with_reducible rfl)
                              try simp only [Act.put, List.setIfInBounds_toArray, List.set_cons_zero, List.set_cons_succ, List.getElem_toArray, List.getElem_cons_succ, List.getElem_cons_zero]
                              refine wpAnyH_take (i := 16) (v := ?_) rfl (by kernel_rfl) (by kernel_rfl) (by kernel_rfl) (fun _ _ _ h => h) (Or.inl ⟨by kernel_rfl, ?_⟩) (by assumption) ?_
                              rotate_left
                              · intro w'' hSw; (try dsimp only at hSw); simp only [List.getElem_toArray, List.getElem_cons_succ, List.getElem_cons_zero]; (go_simp <;> with_reducible rfl)
                              try simp only [Act.put, List.setIfInBounds_toArray, List.set_cons_zero, List.set_cons_succ, List.getElem_toArray, List.getElem_cons_succ, List.getElem_cons_zero]
                              refine wpAnyH_ready (rs := [17]) (by kernel_rfl) (by simp) ?_
                              refine AllReadyH.cons rfl (fun K hK => ?_) AllReadyH.nil
                              rw [if_pos (by rfl)]
                              simp only [List.getElem_toArray, List.getElem_cons_succ, List.getElem_cons_zero]
                              go_simp
                              refine hK.out _ _ ?_ (fun hHr5 => ?_)
                              · (try dsimp only); exact HK.out _ ((((Only.of_kept K7.out).setCell (p := ⟨g, k * 17 + 6, none⟩) (Or.inl (by simp)) _).setCell (p := ⟨g, k * 17 + 7, none⟩) (Or.inl (by simp)) _).setCell (p := ⟨g, k * 17 + 8, none⟩) (Or.inl (by simp)) _)
                              clear hK K
                              try simp only [Act.put, List.setIfInBounds_toArray, List.set_cons_zero, List.set_cons_succ, List.getElem_toArray, List.getElem_cons_succ, List.getElem_cons_zero]
                              refine wpAnyH_done (by kernel_rfl) ?_ _
                              have HFN : Hid (OwnB (((wr4.setCell ⟨g, k * 17 + 6, none⟩ (.int .i64 (cl 65536000 (add q.ax (mul t.way.x (mul dd y)))))).setCell ⟨g, k * 17 + 7, none⟩ (.int .i64 (cl 65536000 (add q.ay (mul t.way.y (mul dd y)))))).setCell ⟨g, k * 17 + 8, none⟩ (.int .i64 (cl 65536000 (add q.az (mul t.way.z (mul dd y)))))) g n (upd C1 k (forthX (C1 k) t.way (mul dd y))) ∧ Only [g] w11 (((wr4.setCell ⟨g, k * 17 + 6, none⟩ (.int .i64 (cl 65536000 (add q.ax (mul t.way.x (mul dd y)))))).setCell ⟨g, k * 17 + 7, none⟩ (.int .i64 (cl 65536000 (add q.ay (mul t.way.y (mul dd y)))))).setCell ⟨g, k * 17 + 8, none⟩ (.int .i64 (cl 65536000 (add q.az (mul t.way.z (mul dd y))))))) := by
                                refine ⟨?_, (((Only.of_kept K7.out).setCell (p := ⟨g, k * 17 + 6, none⟩) (Or.inl (by simp)) _).setCell (p := ⟨g, k * 17 + 7, none⟩) (Or.inl (by simp)) _).setCell (p := ⟨g, k * 17 + 8, none⟩) (Or.inl (by simp)) _⟩
                                have h1 := (HOW.out.2.only (Only.of_kept (D := []) K7.out) (by simp)).putAt hkn (cl 65536000 (add q.ax (mul t.way.x (mul dd y)))) (cl 65536000 (add q.ay (mul t.way.y (mul dd y)))) (cl 65536000 (add q.az (mul t.way.z (mul dd y))))
                                rw [HQ.out] at h1
                                show OwnB _ g n (upd C1 k (forthX (C1 k) t.way (mul dd y)))
                                rw [HQ.out]; exact h1
                              clear e6 e7 e8 f6 f7 f8 K7 hHr5 hHr4
                              have HFI : Hid (RW w (some ⟨g, 0, none⟩) g n (stepX n C t) (((wr4.setCell ⟨g, k * 17 + 6, none⟩ (.int .i64 (cl 65536000 (add q.ax (mul t.way.x (mul dd y)))))).setCell ⟨g, k * 17 + 7, none⟩ (.int .i64 (cl 65536000 (add q.ay (mul t.way.y (mul dd y)))))).setCell ⟨g, k * 17 + 8, none⟩ (.int .i64 (cl 65536000 (add q.az (mul t.way.z (mul dd y))))))) := by
                                have e1 : stepX n C t = upd C1 k (forthX (C1 k) t.way (mul dd y)) := by rw [HE1.out, HC1.out.1, HDD.out]; rfl
                                rw [e1]
                                exact HRW7.out.1.turn rfl HFN.out.1 (HC1.out.2.trans HFN.out.2)
                              clear HFN
                              go_wp2_with fail
                              go_roundg (m - (j + 1))
                              case measure => have := H2.out.2; omega
                              case rel => exact ⟨j + 1, by go_num, ⟨by omega, rfl⟩, by show RW w _ g n (stepX n (placesX n B T j) (T j)) _; rw [← HT.out, ← HC.out]; exact HFI.out⟩
                          · rw [if_pos (by rfl)]
                            simp only [List.getElem_toArray, List.getElem_cons_succ, List.getElem_cons_zero]
                            go_simp
                            (go_at_call 31; refine (refTimes_calls _ _ _ _ _).mono ?_; rintro e wq7 ⟨rfl, kq7⟩)
                            try go_wp2_with fail
                            refine hK.out _ _ ?_ (fun hH7 => ?_)
                            · (try dsimp only); exact HK.out _ (Only.of_kept ((Kept.refl w11).drew.trans kq7))
                            clear hK K hH4
                            try simp only [Act.put, List.setIfInBounds_toArray, List.set_cons_zero, List.set_cons_succ, List.getElem_toArray, List.getElem_cons_succ, List.getElem_cons_zero]
                            refine wpAnyH_ready (rs := [6]) (by kernel_rfl) (by simp) ?_
                            refine AllReadyH.cons rfl (fun K hK => ?_) AllReadyH.nil
                            rw [if_pos (by rfl)]
                            obtain ⟨l0, l1, l2⟩ := HLD.out _ ((Kept.refl w11).drew.trans kq7)
                            simp only [List.getElem_toArray, List.getElem_cons_succ, List.getElem_cons_zero]
                            go_simp
                            clear l0 l1 l2
                            refine hK.out _ _ ?_ (fun hH8 => ?_)
                            · (try dsimp only); exact HK.out _ (Only.of_kept ((Kept.refl w11).drew.trans kq7))
                            clear hK K hH7
                            try simp only [Act.put, List.setIfInBounds_toArray, List.set_cons_zero, List.set_cons_succ, List.getElem_toArray, List.getElem_cons_succ, List.getElem_cons_zero]
                            as_aux_lemma =>
                              refine wpAnyH_ready (rs := [13]) (by kernel_rfl) (by simp) ?_
                              refine AllReadyH.cons rfl (fun K hK => ?_) AllReadyH.nil
                              rw [if_pos (by rfl)]
                              simp only [List.getElem_toArray, List.getElem_cons_succ, List.getElem_cons_zero]
                              go_simp
                              (go_at_call 27; refine (refPlus_calls _ _ _ _ _ _ _).mono ?_; rintro e wr3 ⟨rfl, kr3⟩)
                              try go_wp2_with fail
                              refine hK.out _ _ ?_ (fun hHr3 => ?_)
                              · (try dsimp only); exact HK.out _ (Only.of_kept (((Kept.refl w11).drew.trans kq7).trans kr3))
                              clear hK K hH8
                              try simp only [Act.put, List.setIfInBounds_toArray, List.set_cons_zero, List.set_cons_succ, List.getElem_toArray, List.getElem_cons_succ, List.getElem_cons_zero]
                              refine wpAnyH_ready (rs := [14]) (by kernel_rfl) (by simp) ?_
                              refine AllReadyH.cons rfl (fun K hK => ?_) AllReadyH.nil
                              rw [if_pos (by rfl)]
                              simp only [List.getElem_toArray, List.getElem_cons_succ, List.getElem_cons_zero]
                              go_simp
                              (go_at_call 39; refine (refClamp_calls _ _ _ _ _ (by decide)).mono ?_; rintro e wr4 ⟨rfl, kr4⟩)
                              try go_wp2_with fail
                              refine hK.out _ _ ?_ (fun hHr4 => ?_)
                              · (try dsimp only); exact HK.out _ (Only.of_kept ((((Kept.refl w11).drew.trans kq7).trans kr3).trans kr4))
                              clear hK K hHr3
                              try simp only [Act.put, List.setIfInBounds_toArray, List.set_cons_zero, List.set_cons_succ, List.getElem_toArray, List.getElem_cons_succ, List.getElem_cons_zero]
                              simp only [bound_place]
                              have K7 : Hid (Kept w11 wr4) := (((Kept.refl w11).drew.trans kq7).trans kr3).trans kr4
                              clear kr3 kr4
                              obtain ⟨e6, e7, e8⟩ := HLD.out _ K7.out
                              have f6 := kept_frozen K7.out (HOW.out.2.free (k * 17 + 6)); have f7 := kept_frozen K7.out (HOW.out.2.free (k * 17 + 7)); have f8 := kept_frozen K7.out (HOW.out.2.free (k * 17 + 8))
                              refine wpAnyH_take (i := 15) (v := ?_) rfl (by kernel_rfl) (by kernel_rfl) (by kernel_rfl) (fun _ _ _ h => h) (Or.inl ⟨by kernel_rfl, ?_⟩) (by assumption) ?_
                              rotate_left
                              · intro w'' hSw; (try dsimp only at hSw); simp only [List.getElem_toArray, List.getElem_cons_succ, List.getElem_cons_zero]; (go_simp <;> with_reducible rfl)
                              try simp only [Act.put, List.setIfInBounds_toArray, List.set_cons_zero, List.set_cons_succ, List.getElem_toArray, List.getElem_cons_succ, List.getElem_cons_zero]
                              refine wpAnyH_take (i := 16) (v := ?_) rfl (by kernel_rfl) (by kernel_rfl) (by kernel_rfl) (fun _ _ _ h => h) (Or.inl ⟨by kernel_rfl, ?_⟩) (by assumption) ?_
                              rotate_left
                              · intro w'' hSw; (try dsimp only at hSw); simp only [List.getElem_toArray, List.getElem_cons_succ, List.getElem_cons_zero]; (go_simp <;> with_reducible rfl)
                              try simp only [Act.put, List.setIfInBounds_toArray, List.set_cons_zero, List.set_cons_succ, List.getElem_toArray, List.getElem_cons_succ, List.getElem_cons_zero]
                              refine wpAnyH_ready (rs := [17]) (by kernel_rfl) (by simp) ?_
                              refine AllReadyH.cons rfl (fun K hK => ?_) AllReadyH.nil
                              rw [if_pos (by rfl)]
                              simp only [List.getElem_toArray, List.getElem_cons_succ, List.getElem_cons_zero]
                              go_simp
                              refine hK.out _ _ ?_ (fun hHr5 => ?_)
                              · (try dsimp only); exact HK.out _ ((((Only.of_kept K7.out).setCell (p := ⟨g, k * 17 + 6, none⟩) (Or.inl (by simp)) _).setCell (p := ⟨g, k * 17 + 7, none⟩) (Or.inl (by simp)) _).setCell (p := ⟨g, k * 17 + 8, none⟩) (Or.inl (by simp)) _)
                              clear hK K
                              try simp only [Act.put, List.setIfInBounds_toArray, List.set_cons_zero, List.set_cons_succ, List.getElem_toArray, List.getElem_cons_succ, List.getElem_cons_zero]
                              refine wpAnyH_done (by kernel_rfl) ?_ _
                              have HFN : Hid (OwnB (((wr4.setCell ⟨g, k * 17 + 6, none⟩ (.int .i64 (cl 65536000 (add q.ax (mul t.way.x (mul dd y)))))).setCell ⟨g, k * 17 + 7, none⟩ (.int .i64 (cl 65536000 (add q.ay (mul t.way.y (mul dd y)))))).setCell ⟨g, k * 17 + 8, none⟩ (.int .i64 (cl 65536000 (add q.az (mul t.way.z (mul dd y)))))) g n (upd C1 k (forthX (C1 k) t.way (mul dd y))) ∧ Only [g] w11 (((wr4.setCell ⟨g, k * 17 + 6, none⟩ (.int .i64 (cl 65536000 (add q.ax (mul t.way.x (mul dd y)))))).setCell ⟨g, k * 17 + 7, none⟩ (.int .i64 (cl 65536000 (add q.ay (mul t.way.y (mul dd y)))))).setCell ⟨g, k * 17 + 8, none⟩ (.int .i64 (cl 65536000 (add q.az (mul t.way.z (mul dd y))))))) := by
                                refine ⟨?_, (((Only.of_kept K7.out).setCell (p := ⟨g, k * 17 + 6, none⟩) (Or.inl (by simp)) _).setCell (p := ⟨g, k * 17 + 7, none⟩) (Or.inl (by simp)) _).setCell (p := ⟨g, k * 17 + 8, none⟩) (Or.inl (by simp)) _⟩
                                have h1 := (HOW.out.2.only (Only.of_kept (D := []) K7.out) (by simp)).putAt hkn (cl 65536000 (add q.ax (mul t.way.x (mul dd y)))) (cl 65536000 (add q.ay (mul t.way.y (mul dd y)))) (cl 65536000 (add q.az (mul t.way.z (mul dd y))))
                                rw [HQ.out] at h1
                                show OwnB _ g n (upd C1 k (forthX (C1 k) t.way (mul dd y)))
                                rw [HQ.out]; exact h1
                              clear e6 e7 e8 f6 f7 f8 K7 hHr5 hHr4
                              have HFI : Hid (RW w (some ⟨g, 0, none⟩) g n (stepX n C t) (((wr4.setCell ⟨g, k * 17 + 6, none⟩ (.int .i64 (cl 65536000 (add q.ax (mul t.way.x (mul dd y)))))).setCell ⟨g, k * 17 + 7, none⟩ (.int .i64 (cl 65536000 (add q.ay (mul t.way.y (mul dd y)))))).setCell ⟨g, k * 17 + 8, none⟩ (.int .i64 (cl 65536000 (add q.az (mul t.way.z (mul dd y))))))) := by
                                have e1 : stepX n C t = upd C1 k (forthX (C1 k) t.way (mul dd y)) := by rw [HE1.out, HC1.out.1, HDD.out]; rfl
                                rw [e1]
                                exact HRW7.out.1.turn rfl HFN.out.1 (HC1.out.2.trans HFN.out.2)
                              clear HFN
                              go_wp2_with fail
                              go_roundg (m - (j + 1))
                              case measure => have := H2.out.2; omega
                              case rel => exact ⟨j + 1, by go_num, ⟨by omega, rfl⟩, by show RW w _ g n (stepX n (placesX n B T j) (T j)) _; rw [← HT.out, ← HC.out]; exact HFI.out⟩
                  · have HE1 : Hid (stepX n C t = C) := by show stepX n C t = _; rw [HE.out, if_neg hpos]
                    clear HE
                    go_wp2_with fail
                    go_roundg (m - (j + 1))
                    case measure => have := H2.out.2; omega
                    case rel => exact ⟨j + 1, by go_num, ⟨by omega, rfl⟩, by show RW w _ g n (stepX n (placesX n B T j) (T j)) _; rw [← HT.out, ← HC.out, HE1.out]; exact (HRW.out.keep (Only.of_kept K7.out) : RW ..)⟩
      · have hjl : ¬ (j : Int) < (m : Int) := by omega
        obtain rfl : j = m := by have := H2.out.1; omega
        go_wp2_with fail
        go_ret
        exact ⟨a1, c1, rfl, HP.out.own.bodies, HP.out.only⟩
end Go.Proofs.Ytbfkloclmlnahaa
