/- gyrelaw.WireCuts: whatever is given: true. -/
import Derived.Test.YtbiaajncngldlaaDoorWm2
namespace Go.Proofs.YtbiaajncngldlaaDoor
open Go.ChangeShapes Go.WideShapes Go.ChangeAt Go.RowKit
set_option linter.unusedVariables false
set_option linter.unusedSimpArgs false

theorem wireCuts_long (st ba ti : Int) (a : Option Addr) (n c : Nat) (w : World) (h : 2000 < n) : Calls Tryd.prog 6 #[.int .i64 st, .int .i64 ba, .slice a n c, .int .i64 ti] w fun e w' => e = .returned (.bool true) ∧ Only [] w w' := by
  have hl : (n : Int) > 2000 := by omega
  go_enter Tryd.func6, Tryd.ntmps6
  go_wp2_with fail
  go_ret
  exact ⟨rfl, Only.refl _ _⟩
theorem rem4 (ti : Int) : ∃ q : Nat, q ≤ 3 ∧ wrap64 ((IntKind.u64.wrap ti).tmod 4) = (q : Int) := by
  have hu : 0 ≤ IntKind.u64.wrap ti := by show 0 ≤ ti % _; exact Int.emod_nonneg _ (by decide)
  have e1 : (IntKind.u64.wrap ti).tmod 4 = IntKind.u64.wrap ti % 4 := Int.tmod_eq_emod_of_nonneg hu
  have e2 := Int.emod_nonneg (IntKind.u64.wrap ti) (show (4 : Int) ≠ 0 by decide)
  have e3 := Int.emod_lt_of_pos (IntKind.u64.wrap ti) (show (0 : Int) < 4 by decide)
  have e4 : wrap64 ((IntKind.u64.wrap ti).tmod 4) = IntKind.u64.wrap ti % 4 := by rw [e1]; unfold wrap64; omega
  exact ⟨(IntKind.u64.wrap ti % 4).toNat, by omega, by rw [e4]; omega⟩
set_option maxRecDepth 100000 in
set_option maxHeartbeats 2000000 in
theorem wireCuts_calls (st ba ti : Int) (a : Option Addr) (c : Nat) (L : List Nat) (w : World) (hg : EtIs w) (hl : L.length ≤ 2000) (hb : ByAt w a L) (hn : a = none → L = [] ∧ c = 0) (hc : L.length ≤ c) :
    Calls Tryd.prog 6 #[.int .i64 st, .int .i64 ba, .slice a L.length c, .int .i64 ti] w fun e w' => e = .returned (.bool true) ∧ Only [] w w' := by
  obtain ⟨q, hq3, hq⟩ := rem4 ti
  have HG : Hid (EtIs w) := hg
  have H0 : Hid (BS w L a L.length c w) := ⟨rfl, hb, hn, hc, Only.refl _ _⟩
  have hlg : ¬ (L.length : Int) > 2000 := by omega
  clear hg hb hn hc
  obtain ⟨n, hnl⟩ : ∃ n, n = L.length := ⟨_, rfl⟩
  rw [← hnl] at hl hlg H0 ⊢
  clear hnl
  go_enter Tryd.func6, Tryd.ntmps6
  go_upto_region 4 with fail
  go_loopg [2, 9] q (fun k' bv idx wr => ∃ (i : Nat) (ai : Option Addr) (ni ci : Nat) (Li : List Nat), bv = .slice ai ni ci ∧ idx = .int .i64 (i : Int) ∧ Hid (i ≤ q ∧ k' = q - i ∧ ni ≤ 2000 * 2 ^ i) ∧ Hid (BS w Li ai ni ci wr))
  case atStart => exact ⟨0, a, n, c, L, rfl, rfl, ⟨by omega, rfl, by omega⟩, H0⟩
  case round =>
    obtain ⟨i, ai, ni, ci, Li, rfl, rfl, HI, HE⟩ := hrel
    have hni : ni ≤ 16000 := by
      have h1 := HI.out.2.2
      have h2 := HI.out.1
      have h3 : 2 ^ i ≤ 2 ^ 3 := Nat.pow_le_pow_right (by omega) (by omega)
      omega
    clear H0
    by_cases hi : i < q
    case pos =>
      have hil : (i : Int) < (q : Int) := by omega
      have hown0 : (wr.alloc (.cells #[] 5)).ownsRow wr.heap.size 5 1 (.slice (some ⟨wr.heap.size, 0, none⟩) 0 0) 0 [] := World.ownsRow_made wr #[] 0 (Nat.le_refl _) (Nat.zero_le _) rfl
      have hsz0 : wr.heap.size ≤ (wr.alloc (.cells #[] 5)).heap.size := ((Only.refl [] wr).alloc _).size
      have HY : Hid (ByAt (wr.alloc (.cells #[] 5)) ai Li ∧ (ai = none → Li = [] ∧ ci = 0) ∧ ni = Li.length) := ⟨HE.out.by_.only (D := []) ((Only.refl _ _).alloc _) (by simp), HE.out.nn, HE.out.len⟩
      have HY1 : Hid (∀ (v1 : Value) (w1 : World), (wr.alloc (.cells #[] 5)).grownBy w1 (Value.slice (some ⟨wr.heap.size, 0, none⟩) 0 0).ownBlock → ByAt w1 ai Li) := fun v1 w1 g => HE.out.by_.only (((Only.refl [] wr).alloc _).grown g (fun k hk => Or.inr (ownN_block hown0 hk))) (by simp)
      have HY2 : Hid (∀ (v1 : Value) (w1 : World) (v2 : Value) (w2 : World), w1.ownsRow wr.heap.size 5 1 v1 (0 + ni) ([] ++ byV Li) → (wr.alloc (.cells #[] 5)).grownBy w1 (Value.slice (some ⟨wr.heap.size, 0, none⟩) 0 0).ownBlock → w2.ownsRow wr.heap.size 5 1 v2 (0 + ni + ni) ([] ++ byV Li ++ byV Li) → w1.grownBy w2 v1.ownBlock → v2 ≠ .slice none 0 0 → ∃ a' n' c', v2 = .slice a' n' c' ∧ n' = 2 * ni ∧ BS w (Li ++ Li) a' n' c' w2) := fun v1 w1 v2 w2 h1 g1 h2 g2 hz => HE.out.twice (v1 := v1) ((Only.refl [] wr).alloc _) (fun k hk => ownN_block hown0 hk) (fun k hk => ownN_block h1 hk) g1 g2 (by simpa using h2) hz
      go_upto_region 6 with fail
      clear HE
      go_wp2_with (first | (at_builtin; refine wpList_appendB rfl (.tmp 26) (.tmp 27) rfl wr.heap.size (.slice (some ⟨wr.heap.size, 0, none⟩) 0 0) 0 [] rfl hown0 ai ni ci Li rfl HY.out.2.2 HY.out.1 HY.out.2.1 (by omega) hsz0 ?_; intro v1 w1 hown1 hgr1 hnz1; have HO1 : Hid (w1.ownsRow wr.heap.size 5 1 v1 (0 + ni) ([] ++ byV Li) ∧ (wr.alloc (.cells #[] 5)).grownBy w1 (Value.slice (some ⟨wr.heap.size, 0, none⟩) 0 0).ownBlock ∧ v1 ≠ .slice none 0 0) := ⟨hown1, hgr1, hnz1 (by simp)⟩; clear hown1 hgr1 hnz1) | (at_builtin; refine wpList_appendB rfl (.tmp 28) (.tmp 29) rfl wr.heap.size v1 (0 + ni) ([] ++ byV Li) rfl HO1.out.1 ai ni ci Li rfl HY.out.2.2 (HY1.out v1 w1 HO1.out.2.1) HY.out.2.1 (by omega) (Nat.le_trans hsz0 HO1.out.2.1.size) ?_; intro v2 w2 hown2 hgr2 hnz2; obtain ⟨a9, n9, c9, hv9, hn9, hbs⟩ := HY2.out v1 w1 v2 w2 HO1.out.1 HO1.out.2.1 hown2 hgr2 (hnz2 HO1.out.2.2); have H9 : Hid (BS w (Li ++ Li) a9 n9 c9 w2 ∧ n9 = 2 * ni) := ⟨hbs, hn9⟩; subst hv9; clear hown2 hgr2 hnz2 hbs hn9))
      go_roundg (q - (i + 1))
      case measure => have := HI.out.2.1; omega
      case rel => exact ⟨i + 1, a9, n9, c9, Li ++ Li, rfl, by go_num, ⟨by omega, rfl, by have h1 := HI.out.2.2; have h2 := H9.out.2; rw [Nat.pow_succ]; omega⟩, H9.out.1⟩
    have hil : ¬ (i : Int) < (q : Int) := by omega
    by_cases hbig : (ni : Int) > 5000
    · go_wp2_with fail
      go_ret
      exact ⟨rfl, HE.out.only⟩
    go_wp2_with fail
    have hr := refCuts_calls st ba ai ci Li wr (by rw [← HE.out.len]; omega) HE.out.by_ HE.out.nn HE.out.lc
    rw [← HE.out.len] at hr
    refine hr.mono ?_
    clear hr
    intro e1 w1 h1
    have o1 := h1.1
    obtain ⟨ar, M, cr, er, rfl, hM, hboth⟩ := cuts_both h1
    have H1 : Hid (BS w Li ai ni ci w1 ∧ ∀ w2 e2, CutPost st ba Li w1 e2 w2 → ∃ ap cp, e2 = .returned (.tuple #[.slice ap M cp, eF er]) ∧ PSide w2 ap ar M) := ⟨⟨HE.out.len, HE.out.by_.only o1 (by simp), HE.out.nn, HE.out.lc, HE.out.only.trans o1⟩, hboth⟩
    clear h1 o1 hboth HE
    go_wp2_with fail
    have hr := cut_calls st ba ai ci Li w1 (by rw [← H1.out.1.len]; omega) H1.out.1.by_ H1.out.1.nn H1.out.1.lc
    rw [← H1.out.1.len] at hr
    refine hr.mono ?_
    clear hr
    intro e2 w2 h2
    obtain ⟨ap, cp, rfl, hpp⟩ := H1.out.2 _ _ h2
    have H2 : Hid (Only [] w w2 ∧ PSide w2 ap ar M) := ⟨H1.out.1.only.trans h2.1, hpp⟩
    clear h2 hpp H1
    go_wp2_with fail
    refine (bareE_calls er w2 (HG.out.only H2.out.1)).mono ?_
    rintro e w3 ⟨rfl, o3⟩
    have H3 : Hid (Only [] w2 w3) := o3
    clear o3
    go_upto_region 14 with fail
    go_loopg [14] M (fun k' idx wr => ∃ j : Nat, idx = .int .i64 (j : Int) ∧ Hid (j ≤ M ∧ k' = M - j) ∧ Hid (Only [] w2 wr))
    case atStart => exact ⟨0, rfl, ⟨by omega, rfl⟩, H3⟩
    case round =>
      clear H3
      obtain ⟨j, rfl, HJ, HO⟩ := hrel
      by_cases hj : j < M
      case neg =>
        have hjl : ¬ (j : Int) < (M : Int) := by omega
        go_wp2_with fail
        go_ret
        exact ⟨rfl, H2.out.1.trans HO.out⟩
      have hjl : (j : Int) < (M : Int) := by omega
      obtain ⟨g1, g2, P, a1, m1, c1, a2, m2, c2, B, rfl, rfl, r1, r2, q1, q2⟩ := H2.out.2 j hj
      have HR : Hid (∀ u, Only [] wr u → u.rangeAt g1 (j * 5) [.int .i64 (P.st), .int .i64 (P.ba), .int .i64 (P.ix), .int .i64 (P.mn), .slice a1 m1 c1] ∧ u.rangeAt g2 (j * 5) [.int .i64 (P.st), .int .i64 (P.ba), .int .i64 (P.ix), .int .i64 (P.mn), .slice a2 m2 c2] ∧ ReadsAs u (.slice a1 m1 c1) B ∧ ReadsAs u (.slice a2 m2 c2) B) := fun u o => ⟨fun k v hk => (HO.out.trans o).cell (r1 k v hk) (by simp), fun k v hk => (HO.out.trans o).cell (r2 k v hk) (by simp), q1.only (HO.out.trans o), q2.only (HO.out.trans o)⟩
      clear r1 r2 q1 q2
      go_upto_region 16 with fail
      refine wp_region_held_drew (S := (fun w' => Only [] wr w')) (by kernel_rfl) ?_ (fun hHeld1 => ?_)
      · (try dsimp only); exact (Only.refl [] wr).drew
      refine tkW 0 rfl ?_; refine tkW 1 rfl ?_; refine tkW 2 rfl ?_; refine tkW 4 rfl ?_
      try simp only [Act.put, List.setIfInBounds_toArray, List.set_cons_zero, List.set_cons_succ, List.getElem_toArray, List.getElem_cons_succ, List.getElem_cons_zero]
      refine tkW 5 rfl ?_; refine tkW 6 rfl ?_
      try simp only [Act.put, List.setIfInBounds_toArray, List.set_cons_zero, List.set_cons_succ, List.getElem_toArray, List.getElem_cons_succ, List.getElem_cons_zero]
      refine tkW (v := (.agg #[.int .i64 (P.st), .int .i64 (P.ba), .int .i64 (P.ix), .int .i64 (P.mn), .slice a1 m1 c1])) 3 rfl ?_ (by intro w'' hSw; (try dsimp only at hSw); simp only [List.getElem_toArray, List.getElem_cons_succ, List.getElem_cons_zero]; exact run_row5 (Or.inl rfl) rfl (by kernel_rfl) (HR.out _ hSw).1)
      try simp only [Act.put, List.setIfInBounds_toArray, List.set_cons_zero, List.set_cons_succ, List.getElem_toArray, List.getElem_cons_succ, List.getElem_cons_zero]
      refine tkW (v := (.agg #[.int .i64 (P.st), .int .i64 (P.ba), .int .i64 (P.ix), .int .i64 (P.mn), .slice a2 m2 c2])) 7 rfl ?_ (by intro w'' hSw; (try dsimp only at hSw); simp only [List.getElem_toArray, List.getElem_cons_succ, List.getElem_cons_zero]; exact run_row5 (Or.inr rfl) rfl (by kernel_rfl) (HR.out _ hSw).2.1)
      try simp only [Act.put, List.setIfInBounds_toArray, List.set_cons_zero, List.set_cons_succ, List.getElem_toArray, List.getElem_cons_succ, List.getElem_cons_zero]
      refine wpAnyH_ready (rs := [8]) (by kernel_rfl) (by simp) ?_
      refine AllReadyH.cons rfl (fun K hK => ?_) AllReadyH.nil
      first | (with_reducible refine iteYes ?hcx ?htx; case hcx => kernel_rfl) | rw [if_pos (by rfl)]
      simp only [List.getElem_toArray, List.getElem_cons_succ, List.getElem_cons_zero]
      go_simp
      (go_at_call 17; refine (samePc_calls P _ _ B _ (HR.out _ hHeld1).2.2.1 (HR.out _ hHeld1).2.2.2).mono ?_; rintro e w9 ⟨rfl, o9⟩)
      try go_wp2_with fail
      refine hK.out _ _ ?_ (fun hHeld2 => ?_)
      · (try dsimp only); exact hHeld1.trans o9
      clear hK K hHeld1
      try simp only [Act.put, List.setIfInBounds_toArray, List.set_cons_zero, List.set_cons_succ, List.getElem_toArray, List.getElem_cons_succ, List.getElem_cons_zero]
      refine tkW 9 rfl ?_
      try simp only [Act.put, List.setIfInBounds_toArray, List.set_cons_zero, List.set_cons_succ, List.getElem_toArray, List.getElem_cons_succ, List.getElem_cons_zero]
      refine wpAnyH_done (by kernel_rfl) ?_ _
      have H9 : Hid (Only [] w2 w9) := HO.out.trans hHeld2
      clear hHeld2 HO HR
      go_wp2_with fail
      go_roundg (M - (j + 1))
      case measure => have := HJ.out.2; omega
      case rel => exact ⟨j + 1, by go_num, ⟨by omega, rfl⟩, H9⟩
end Go.Proofs.YtbiaajncngldlaaDoor
