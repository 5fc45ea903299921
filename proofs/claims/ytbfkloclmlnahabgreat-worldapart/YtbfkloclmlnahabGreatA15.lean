/- gyrekeep.WorldApart: true, whatever is given. · How bodies and touches that came in lie in memory. -/
import Derived.Test.YtbfkloclmlnahabGreatA14
import Derived.Test.YtbfkloclmlnahabGreatA6
import Derived.Lib.SmallJoins
import Derived.Carry
import Derived.Deep.Slices
import Derived.WalkKit
import Derived.ProofKit
import Derived.OpenShut
open List renaming getElem_toArray → zqa, getElem_cons_succ → zqb, getElem_cons_zero → zqc, setIfInBounds_toArray → zqd, set_cons_zero → zqe, set_cons_succ → zqf, getElem?_toArray → zqg, getElem?_cons_succ → zqh, getElem?_cons_zero → zqi
namespace Go.Proofs.YtbfkloclmlnahabGreat
open Go.ChangeShapes Go.WideShapes Go.ChangeAt Go.RowKit
set_option linter.unusedVariables false
set_option linter.unusedSimpArgs false

theorem cat_fit {L K : Nat → Bd} {n m : Nat} (h : ∀ j, j < n → rightW (L j) = 0) (k : ∀ j, j < m → rightW (K j) = 0) : ∀ j, j < n + m → rightW (catB L n K j) = 0 := fun j hj => by
  unfold catB
  split
  · exact h j (by omega)
  · exact k (j - n) (by omega)
theorem cat_agree (L K : Nat → Bd) (n m : Nat) : Agree n (NB L n) (NB (catB L n K) (n + m)) := fun j hj => by
  rw [NB_lt L hj, NB_lt _ (show j < n + m by omega)]
  unfold catB; rw [if_pos hj]
/-- Where both worlds are. -/
structure PW2 (w3 : World) (x y : Nat) (c : Wc) (n N t ty : Nat) (st : Int) (g : Nat) (a : Option Addr) (cap : Nat) (B : Nat → Bd) (M : List (Int × Bx)) (D : List Nat) (gy : Nat) (ay : Option Addr) (capy : Nat) (C : Nat → Bd) (My : List (Int × Bx)) (Dy : List Nat) (wr : World) : Prop where
  xs : XS w3 x c n t st g a cap B M D wr
  ys : XS w3 y c N ty st gy ay capy C My Dy wr
  dis : ∀ b, b ∈ x :: g :: D → b ∉ y :: gy :: Dy
  ag : Agree n B C
theorem PW2.keep {w3 : World} {x y : Nat} {c : Wc} {n N t ty : Nat} {st : Int} {g : Nat} {a : Option Addr} {cap : Nat} {B : Nat → Bd} {M : List (Int × Bx)} {D : List Nat} {gy : Nat} {ay : Option Addr} {capy : Nat} {C : Nat → Bd} {My : List (Int × Bx)} {Dy : List Nat} {wr w' : World} (h : PW2 w3 x y c n N t ty st g a cap B M D gy ay capy C My Dy wr) (o : Only [] wr w') : PW2 w3 x y c n N t ty st g a cap B M D gy ay capy C My Dy w' := ⟨h.xs.keep o, h.ys.keep o, h.dis, h.ag⟩
set_option maxRecDepth 1000000 in
set_option maxHeartbeats 40000000 in
theorem apart_calls (a0 : Option Addr) (n0 c0 : Nat) (B0 : Nat → Bd) (b0 : Option Addr) (k0 d0 : Nat) (K0 : Nat → Bd) (f1 f2 f3 pa pb pc ps : Int) (w : World) (h : BodiesAt w a0 n0 B0) (k : BodiesAt w b0 k0 K0) :
    Calls Tryz.prog 4 #[.slice a0 n0 c0, .slice b0 k0 d0, .agg #[.int .i64 f1, .int .i64 f2, .int .i64 f3], .int .i64 pa, .int .i64 pb, .int .i64 pc, .int .i64 ps] w fun e w' => e = .returned (.bool true) ∧ Only [] w w' := by
  have HB : Hid (BodiesAt w a0 n0 B0 ∧ BodiesAt w b0 k0 K0) := ⟨h, k⟩
  clear h k
  go_enter Tryz.func4, Tryz.ntmps4
  go_upto_region 1 with fail
  have H1 : Hid (VecAt (w.alloc (.cells #[.int .i64 f1, .int .i64 f2, .int .i64 f3] 24)) w.heap.size f1 f2 f3 ∧ Only [] w (w.alloc (.cells #[.int .i64 f1, .int .i64 f2, .int .i64 f3] 24))) := ⟨(MapKept.heap_alloc w _).1, (Only.refl [] w).alloc _⟩
  revert H1
  generalize w.heap.size = kf
  generalize World.alloc w _ = w1
  intro H1
  go_wp2_with fail
  refine (moved_calls _).mono ?_
  rintro e w2 ⟨rfl, o2⟩
  have H2 : Hid (VecAt w2 kf f1 f2 f3 ∧ Only [] w w2) := ⟨H1.out.1.only o2 (by simp), H1.out.2.trans o2⟩
  clear o2 H1
  go_wp2_with fail
  refine (some_calls a0 n0 c0 B0 w2 (HB.out.1.only H2.out.2)).mono ?_
  rintro e wa ⟨v, m1, L1, rfl, hm1, hS⟩
  obtain ⟨a1, g1, c1, rfl, hO, _, hsl1⟩ := OwnS.of_rowN hS.row
  have HA : Hid (VecAt wa kf f1 f2 f3 ∧ Only [] w wa ∧ BodiesAt wa a1 m1 L1 ∧ (∀ j, j < m1 → rightW (L1 j) = 0) ∧ m1 ≤ 20 ∧ SlArg a1 m1 c1) := ⟨H2.out.1.only hS.only (by simp), H2.out.2.trans hS.only, hO.bodies, hS.fit, hm1, hsl1⟩
  clear hm1 hS hO hsl1 H2
  go_wp2_with fail
  refine (some_calls b0 k0 d0 K0 wa (HB.out.2.only HA.out.2.1)).mono ?_
  rintro e w3 ⟨v, m2, L2, rfl, hm2, hS⟩
  obtain ⟨a2, g2, c2, rfl, hO, _, hsl2⟩ := OwnS.of_rowN hS.row
  have H3 : Hid (VecAt w3 kf f1 f2 f3 ∧ Only [] w w3 ∧ BodiesAt w3 a1 m1 L1 ∧ (∀ j, j < m1 → rightW (L1 j) = 0) ∧ BodiesAt w3 a2 m2 L2 ∧ (∀ j, j < m2 → rightW (L2 j) = 0) ∧ m1 ≤ 20 ∧ SlArg a1 m1 c1 ∧ SlArg a2 m2 c2 ∧ m2 ≤ 20) := ⟨HA.out.1.only hS.only (by simp), HA.out.2.1.trans hS.only, HA.out.2.2.1.only hS.only, HA.out.2.2.2.1, hO.bodies, hS.fit, HA.out.2.2.2.2.1, HA.out.2.2.2.2.2, hsl2, hm2⟩
  clear hm2 hS hO hsl2 HA
  have HFC : Hid (∀ j, j < m1 + m2 → rightW (catB L1 m1 L2 j) = 0) := cat_fit H3.out.2.2.2.1 H3.out.2.2.2.2.2.1
  go_upto_region 4 with fail
  have HK : Hid (∀ w', Only [] w3 w' → w'.cell? ⟨kf, 0, none⟩ = some (.int .i64 f1) ∧ w'.cell? ⟨kf, 1, none⟩ = some (.int .i64 f2) ∧ w'.cell? ⟨kf, 2, none⟩ = some (.int .i64 f3)) := fun w' o => ⟨cell_old1 o (H3.out.1.off 0), cell_old1 o (H3.out.1.off 1), cell_old1 o (H3.out.1.off 2)⟩
  go_cut [17, 18] from 31 to 48 (fun s17 s18 wc => ∃ x y g a5 cap5 t M D gy ay capy ty My Dy, s17 = .pointer (some ⟨x, 0, none⟩) ∧ s18 = .pointer (some ⟨y, 0, none⟩) ∧ XS w3 x (fallC f1 f2 f3 (pickI pa 65537) (pickI pb 65537) (1 + pickI pc 6)) m1 t 0 g a5 cap5 (NB L1 m1) M D wc ∧ XS w3 y (fallC f1 f2 f3 (pickI pa 65537) (pickI pb 65537) (1 + pickI pc 6)) (m1 + m2) ty 0 gy ay capy (NB (catB L1 m1 L2) (m1 + m2)) My Dy wc ∧ (∀ b, b ∈ x :: g :: D → b ∉ y :: gy :: Dy) ∧ Only [] w3 wc)
  case first =>
    refine wp_region_held_drew (S := (fun w' => w'.cell? ⟨kf, 0, none⟩ = some (.int .i64 f1) ∧ w'.cell? ⟨kf, 1, none⟩ = some (.int .i64 f2) ∧ w'.cell? ⟨kf, 2, none⟩ = some (.int .i64 f3))) (by kernel_rfl) ?_ (fun hHeld1 => ?_)
    · (try dsimp only); exact HK.out _ (Only.refl [] w3).drew
    refine wpAnyH_take (i := 0) (v := ?_) rfl (by kernel_rfl) (by kernel_rfl) (by kernel_rfl) (fun _ _ _ h => h) (Or.inl ⟨by kernel_rfl, ?_⟩) (by assumption) ?_
    rotate_left
    · intro w'' hSw; (try dsimp only at hSw); simp only [zqa, zqb, zqc]; (go_simp <;> with_reducible rfl)
    try simp only [Act.put, zqd, zqe, zqf, zqa, zqb, zqc]
    refine wpAnyH_take (i := 1) (v := ?_) rfl (by kernel_rfl) (by kernel_rfl) (by kernel_rfl) (fun _ _ _ h => h) (Or.inl ⟨by kernel_rfl, ?_⟩) (by assumption) ?_
    rotate_left
    · intro w'' hSw; (try dsimp only at hSw); simp only [zqa, zqb, zqc]; (go_simp <;> with_reducible rfl)
    try simp only [Act.put, zqd, zqe, zqf, zqa, zqb, zqc]
    refine wpAnyH_take (i := 2) (v := ?_) rfl (by kernel_rfl) (by kernel_rfl) (by kernel_rfl) (fun _ _ _ h => h) (Or.inl ⟨by kernel_rfl, ?_⟩) (by assumption) ?_
    rotate_left
    · intro w'' hSw; (try dsimp only at hSw); simp only [zqa, zqb, zqc]; (go_simp <;> with_reducible rfl)
    try simp only [Act.put, zqd, zqe, zqf, zqa, zqb, zqc]
    refine wpAnyH_take (i := 3) (v := ?_) rfl (by kernel_rfl) (by kernel_rfl) (by kernel_rfl) (fun _ _ _ h => h) (Or.inl ⟨by kernel_rfl, ?_⟩) (by assumption) ?_
    rotate_left
    · intro w'' hSw; (try dsimp only at hSw); simp only [zqa, zqb, zqc]; (go_simp <;> with_reducible rfl)
    try simp only [Act.put, zqd, zqe, zqf, zqa, zqb, zqc]
    refine wpAnyH_take (i := 4) (v := ?_) rfl (by kernel_rfl) (by kernel_rfl) (by kernel_rfl) (fun _ _ _ h => h) (Or.inl ⟨by kernel_rfl, ?_⟩) (by assumption) ?_
    rotate_left
    · intro w'' hSw; (try dsimp only at hSw); simp only [zqa, zqb, zqc]; (go_simp <;> with_reducible rfl)
    try simp only [Act.put, zqd, zqe, zqf, zqa, zqb, zqc]
    refine wpAnyH_take (i := 8) (v := ?_) rfl (by kernel_rfl) (by kernel_rfl) (by kernel_rfl) (fun _ _ _ h => h) (Or.inl ⟨by kernel_rfl, ?_⟩) (by assumption) ?_
    rotate_left
    · intro w'' hSw; (try dsimp only at hSw); simp only [zqa, zqb, zqc]; (go_simp <;> with_reducible rfl)
    try simp only [Act.put, zqd, zqe, zqf, zqa, zqb, zqc]
    refine wpAnyH_take (i := 10) (v := ?_) rfl (by kernel_rfl) (by kernel_rfl) (by kernel_rfl) (fun _ _ _ h => h) (Or.inl ⟨by kernel_rfl, ?_⟩) (by assumption) ?_
    rotate_left
    · intro w'' hSw; (try dsimp only at hSw); simp only [zqa, zqb, zqc]; (go_simp <;> with_reducible rfl)
    try simp only [Act.put, zqd, zqe, zqf, zqa, zqb, zqc]
    refine wpAnyH_take (i := 12) (v := ?_) rfl (by kernel_rfl) (by kernel_rfl) (by kernel_rfl) (fun _ _ _ h => h) (Or.inl ⟨by kernel_rfl, ?_⟩) (by assumption) ?_
    rotate_left
    · intro w'' hSw; (try dsimp only at hSw); simp only [zqa, zqb, zqc]; (go_simp <;> with_reducible rfl)
    try simp only [Act.put, zqd, zqe, zqf, zqa, zqb, zqc]
    refine wpAnyH_take (i := 13) (v := ?_) rfl (by kernel_rfl) (by kernel_rfl) (by kernel_rfl) (fun _ _ _ h => h) (Or.inl ⟨by kernel_rfl, ?_⟩) (by assumption) ?_
    rotate_left
    · intro w'' hSw; (try dsimp only at hSw); simp only [zqa, zqb, zqc]; (go_simp <;> with_reducible rfl)
    try simp only [Act.put, zqd, zqe, zqf, zqa, zqb, zqc]
    refine wpAnyH_take (i := 14) (v := ?_) rfl (by kernel_rfl) (by kernel_rfl) (by kernel_rfl) (fun _ _ _ h => h) (Or.inl ⟨by kernel_rfl, ?_⟩) (by assumption) ?_
    rotate_left
    · intro w'' hSw; (try dsimp only at hSw); simp only [zqa, zqb, zqc]; (go_simp <;> with_reducible rfl)
    try simp only [Act.put, zqd, zqe, zqf, zqa, zqb, zqc]
    refine wpAnyH_take (i := 15) (v := ?_) rfl (by kernel_rfl) (by kernel_rfl) (by kernel_rfl) (fun _ _ _ h => h) (Or.inl ⟨by kernel_rfl, ?_⟩) (by assumption) ?_
    rotate_left
    · intro w'' hSw; (try dsimp only at hSw); simp only [zqa, zqb, zqc]; (go_simp <;> with_reducible rfl)
    try simp only [Act.put, zqd, zqe, zqf, zqa, zqb, zqc]
    refine wpAnyH_ready (rs := [5, 7]) (by kernel_rfl) (by simp) ?_
    refine AllReadyH.cons rfl (fun K hK => ?_) (AllReadyH.cons rfl (fun K hK => ?_) AllReadyH.nil)
    · skip
      first | (with_reducible refine iteYes ?hcx ?htx; case hcx => kernel_rfl) | rw [if_pos (by rfl)]
      simp only [zqa, zqb, zqc]
      go_simp
      go_at_call 8
      refine (lawD_calls _ _ _ _).mono ?_
      rintro e w4 ⟨rfl, oo⟩
      have Hw4 : Hid (Only [] w3 w4 ∧ Only [] w3.drew w4) := ⟨((Only.refl [] w3).drew).trans oo, oo⟩
      clear oo
      try go_wp2_with fail
      refine hK.out _ _ ?_ (fun hH4 => ?_)
      · (try dsimp only); exact HK.out _ Hw4.out.1
      clear hK K
      try simp only [Act.put, zqd, zqe, zqf, zqa, zqb, zqc]
      refine wpAnyH_ready (rs := [6, 7]) (by kernel_rfl) (by simp) ?_
      refine AllReadyH.cons rfl (fun K hK => ?_) (AllReadyH.cons rfl (fun K hK => ?_) AllReadyH.nil)
      · as_aux_lemma =>
          first | (with_reducible refine iteYes ?hcx ?htx; case hcx => kernel_rfl) | rw [if_pos (by rfl)]
          simp only [zqa, zqb, zqc]
          go_simp
          go_at_call 7
          refine (filled_calls a1 m1 c1 L1 f1 f2 f3 _ _ _ _ (by have := H3.out.2.2.2.2.2.2.1; omega) (H3.out.2.2.1.only (Hw4.out.1)) H3.out.2.2.2.1 (lawD_right pa pb pc)).mono ?_
          rintro e w5 ⟨x, g, a5, cap5, t, M, D, rfl, hF⟩
          have Hw5 : Hid (XS w3 x (fallC f1 f2 f3 (pickI pa 65537) (pickI pb 65537) (1 + pickI pc 6)) m1 t 0 g a5 cap5 (NB L1 m1) M D w5 ∧ Only [] w3 w5 ∧ (∀ b ∈ x :: g :: D, (w4).heap.size ≤ b) ∧ Only [] w4 w5) := ⟨XS.first (Hw4.out.1) hF H3.out.2.2.2.1 (by have := H3.out.2.2.2.2.2.2.1; omega), (Hw4.out.1).trans hF.ww.only, fun b hb => (hF.ww.mem (Or.inl hb)).elim (fun q => by simp at q) id, hF.ww.only⟩
          clear hF
          try go_wp2_with fail
          refine hK.out _ _ ?_ (fun hH5 => ?_)
          · (try dsimp only); exact HK.out _ Hw5.out.2.1
          clear hK K
          try simp only [Act.put, zqd, zqe, zqf, zqa, zqb, zqc]
          refine wpAnyH_ready (rs := [7]) (by kernel_rfl) (by simp) ?_
          refine AllReadyH.cons rfl (fun K hK => ?_) AllReadyH.nil
          first | (with_reducible refine iteYes ?hcx ?htx; case hcx => kernel_rfl) | rw [if_pos (by rfl)]
          simp only [zqa, zqb, zqc]
          go_simp
          refine hK.out _ _ ?_ (fun hH6 => ?_)
          · (try dsimp only); exact HK.out _ (Hw5.out.2.1.alloc _)
          clear hK K
          try simp only [Act.put, zqd, zqe, zqf, zqa, zqb, zqc]
          have HE0 : Hid (XS w3 x (fallC f1 f2 f3 (pickI pa 65537) (pickI pb 65537) (1 + pickI pc 6)) m1 t 0 g a5 cap5 (NB L1 m1) M D (w5.alloc (.cells #[] 37)) ∧ Only [] w3 (w5.alloc (.cells #[] 37)) ∧ (w5.alloc (.cells #[] 37)).heap[w5.heap.size]? = some (.cells #[] 37) ∧ w5.heap.size ∉ x :: g :: D ∧ w3.heap.size ≤ w5.heap.size) := ⟨Hw5.out.1.keep ((Only.refl [] w5).alloc _), Hw5.out.2.1.alloc _, (MapKept.heap_alloc w5 _).1, fun q => by have := Hw5.out.1.lt q; omega, Hw5.out.2.1.size⟩
          generalize w5.heap.size = ke at HE0 ⊢
          generalize World.alloc w5 _ = w7 at HE0 hH6 ⊢
          have HE := HE0
          clear HE0 Hw5 Hw4
          have hown0 : w7.ownsRow 0 37 17 (.slice (some ⟨ke, 0, none⟩) 0 0) 0 [] := ⟨rfl, Or.inr ⟨ke, 0, #[], rfl, Nat.zero_le _, HE.out.2.2.1, by omega, by unfold maxLen; omega, rfl, rfl⟩⟩
          obtain ⟨v8, w8, hr8, hown8, hgr8, hloc8⟩ := app_rows hown0 (H3.out.2.2.1.only HE.out.2.1) H3.out.2.2.2.2.2.2.2.1 (by have := H3.out.2.2.2.2.2.2.1; omega)
          have o78 : Only [ke] w7 w8 := (Only.refl [ke] w7).grown hgr8 (fun k hk => Or.inl (by simp [Value.ownBlock] at hk; simp [hk]))
          have H8 : Hid (XS w3 x (fallC f1 f2 f3 (pickI pa 65537) (pickI pb 65537) (1 + pickI pc 6)) m1 t 0 g a5 cap5 (NB L1 m1) M D w8 ∧ Only [] w3 w8 ∧ (∀ k, v8.ownBlock = some k → k ∉ x :: g :: D ∧ w3.heap.size ≤ k)) := by
            have hk : ∀ b, b ∈ x :: g :: D → b ∉ [ke] := fun b hb q => by simp only [List.mem_singleton] at q; rw [q] at hb; exact HE.out.2.2.2.1 hb
            refine ⟨HE.out.1.apart o78 hk (fun b hb => by simp only [List.mem_singleton] at hb; rw [hb]; exact HE.out.2.2.2.2), HE.out.2.1.then o78 (fun b hb => by simp only [List.mem_singleton] at hb; rw [hb]; exact Or.inr HE.out.2.2.2.2), fun k hkk => ?_⟩
            rcases hloc8 with e | e
            · rw [e] at hkk; simp [Value.ownBlock] at hkk; rw [← hkk]; exact ⟨HE.out.2.2.2.1, HE.out.2.2.2.2⟩
            · rw [e] at hkk; injection hkk with hkk; rw [← hkk]; exact ⟨fun q => by have := HE.out.1.lt q; omega, HE.out.2.1.size⟩
          have hown8b : w8.ownsRow 0 37 17 v8 m1 (rowsL L1 m1) := by simpa using hown8
          clear hown0 hown8 hgr8 hloc8 o78
          refine wpAnyH_ready (rs := [9]) (by kernel_rfl) (by simp) ?_
          refine AllReadyH.cons rfl (fun K hK => ?_) AllReadyH.nil
          first | (with_reducible refine iteYes ?hcx ?htx; case hcx => kernel_rfl) | rw [if_pos (by rfl)]
          refine step_append (s := .tmp 38) (x := .tmp 39) (t := 22) rfl (by kernel_rfl) (by kernel_rfl) hr8 ?_
          refine hK.out _ _ ?_ (fun hH8 => ?_)
          · (try dsimp only); exact HK.out _ H8.out.2.1
          clear hK K
          try simp only [Act.put, zqd, zqe, zqf, zqa, zqb, zqc]
          clear hr8
          obtain ⟨v9, w9, hr9, hown9, hgr9, hloc9⟩ := app_rows hown8b (H3.out.2.2.2.2.1.only H8.out.2.1) H3.out.2.2.2.2.2.2.2.2.1 (by have := H3.out.2.2.2.2.2.2.1; have := H3.out.2.2.2.2.2.2.2.2.2; omega)
          have o89 : Only v8.ownBlock.toList w8 w9 := (Only.refl _ w8).grown hgr9 (fun k hk => Or.inl (by simp [hk]))
          have H9 : Hid (XS w3 x (fallC f1 f2 f3 (pickI pa 65537) (pickI pb 65537) (1 + pickI pc 6)) m1 t 0 g a5 cap5 (NB L1 m1) M D w9 ∧ Only [] w3 w9) := by
            have hv : ∀ b ∈ v8.ownBlock.toList, b ∉ x :: g :: D ∧ w3.heap.size ≤ b := fun b hb => H8.out.2.2 b (by simpa using hb)
            exact ⟨H8.out.1.apart o89 (fun b hb q => (hv b q).1 hb) (fun b hb => (hv b hb).2), H8.out.2.1.then o89 (fun b hb => Or.inr (hv b hb).2)⟩
          rw [rowsL_cat] at hown9
          obtain ⟨a9, g9, c9, rfl, hS9, _, _⟩ := OwnS.of_rowN hown9
          have HB9 : Hid (BodiesAt w9 a9 (m1 + m2) (catB L1 m1 L2)) := hS9.bodies
          clear hown8b hown9 hgr9 hloc9 o89 hS9
          refine wpAnyH_ready (rs := [11]) (by kernel_rfl) (by simp) ?_
          refine AllReadyH.cons rfl (fun K hK => ?_) AllReadyH.nil
          first | (with_reducible refine iteYes ?hcx ?htx; case hcx => kernel_rfl) | rw [if_pos (by rfl)]
          refine step_append (s := .tmp 40) (x := .tmp 41) (t := 22) rfl (by kernel_rfl) (by kernel_rfl) hr9 ?_
          refine hK.out _ _ ?_ (fun hH9 => ?_)
          · (try dsimp only); exact HK.out _ H9.out.2
          clear hK K
          try simp only [Act.put, zqd, zqe, zqf, zqa, zqb, zqc]
          clear hr9
          refine wpAnyH_ready (rs := [16]) (by kernel_rfl) (by simp) ?_
          refine AllReadyH.cons rfl (fun K hK => ?_) AllReadyH.nil
          first | (with_reducible refine iteYes ?hcx ?htx; case hcx => kernel_rfl) | rw [if_pos (by rfl)]
          simp only [zqa, zqb, zqc]
          go_simp
          go_at_call 8
          refine (lawD_calls _ _ _ _).mono ?_
          rintro e w10 ⟨rfl, oo⟩
          have H10 : Hid (XS w3 x (fallC f1 f2 f3 (pickI pa 65537) (pickI pb 65537) (1 + pickI pc 6)) m1 t 0 g a5 cap5 (NB L1 m1) M D w10 ∧ Only [] w3 w10 ∧ BodiesAt w10 a9 (m1 + m2) (catB L1 m1 L2)) := ⟨H9.out.1.keep oo, H9.out.2.trans oo, HB9.out.only oo⟩
          clear oo
          try go_wp2_with fail
          refine hK.out _ _ ?_ (fun hH10 => ?_)
          · (try dsimp only); exact HK.out _ H10.out.2.1
          clear hK K
          try simp only [Act.put, zqd, zqe, zqf, zqa, zqb, zqc]
          refine wpAnyH_ready (rs := [17]) (by kernel_rfl) (by simp) ?_
          refine AllReadyH.cons rfl (fun K hK => ?_) AllReadyH.nil
          first | (with_reducible refine iteYes ?hcx ?htx; case hcx => kernel_rfl) | rw [if_pos (by rfl)]
          simp only [zqa, zqb, zqc]
          go_simp
          go_at_call 7
          refine (filled_calls a9 (m1 + m2) c9 (catB L1 m1 L2) f1 f2 f3 _ _ _ _ (by have := H3.out.2.2.2.2.2.2.1; have := H3.out.2.2.2.2.2.2.2.2.2; omega) H10.out.2.2 HFC.out (lawD_right pa pb pc)).mono ?_
          rintro e w11 ⟨y, gy, ay, capy, ty, My, Dy, rfl, hF⟩
          have H11 : Hid (XS w3 x (fallC f1 f2 f3 (pickI pa 65537) (pickI pb 65537) (1 + pickI pc 6)) m1 t 0 g a5 cap5 (NB L1 m1) M D w11 ∧ XS w3 y (fallC f1 f2 f3 (pickI pa 65537) (pickI pb 65537) (1 + pickI pc 6)) (m1 + m2) ty 0 gy ay capy (NB (catB L1 m1 L2) (m1 + m2)) My Dy w11 ∧ (∀ b, b ∈ x :: g :: D → b ∉ y :: gy :: Dy) ∧ Only [] w3 w11) := ⟨H10.out.1.keep hF.ww.only, XS.first H10.out.2.1 hF HFC.out (by have := H3.out.2.2.2.2.2.2.1; have := H3.out.2.2.2.2.2.2.2.2.2; omega), fun b hb q => by have h1 := H10.out.1.lt hb; have h2 := (hF.ww.mem (Or.inl q)).elim (fun z => by simp at z) id; omega, H10.out.2.1.trans hF.ww.only⟩
          clear hF
          try go_wp2_with fail
          refine hK.out _ _ ?_ (fun hH11 => ?_)
          · (try dsimp only); exact HK.out _ H11.out.2.2.2
          clear hK K
          try simp only [Act.put, zqd, zqe, zqf, zqa, zqb, zqc]
          refine wpAnyH_take (i := 18) (v := ?_) rfl (by kernel_rfl) (by kernel_rfl) (by kernel_rfl) (fun _ _ _ h => h) (Or.inl ⟨by kernel_rfl, ?_⟩) (by assumption) ?_
          rotate_left
          · intro w'' hSw; (try dsimp only at hSw); simp only [zqa, zqb, zqc]; (go_simp <;> with_reducible rfl)
          try simp only [Act.put, zqd, zqe, zqf, zqa, zqb, zqc]
          refine wpAnyH_take (i := 19) (v := ?_) rfl (by kernel_rfl) (by kernel_rfl) (by kernel_rfl) (fun _ _ _ h => h) (Or.inl ⟨by kernel_rfl, ?_⟩) (by assumption) ?_
          rotate_left
          · intro w'' hSw; (try dsimp only at hSw); simp only [zqa, zqb, zqc]; (go_simp <;> with_reducible rfl)
          try simp only [Act.put, zqd, zqe, zqf, zqa, zqb, zqc]
          refine wpAnyH_done (by kernel_rfl) ?_ _
          go_wp2_with fail
          go_meet
          case rel => exact ⟨x, y, g, a5, cap5, t, M, D, gy, ay, capy, ty, My, Dy, rfl, rfl, H11.out⟩
      · as_aux_lemma =>
          first | (with_reducible refine iteYes ?hcx ?htx; case hcx => kernel_rfl) | rw [if_pos (by rfl)]
          simp only [zqa, zqb, zqc]
          go_simp
          refine hK.out _ _ ?_ (fun hH5 => ?_)
          · (try dsimp only); exact HK.out _ (Hw4.out.1.alloc _)
          clear hK K
          try simp only [Act.put, zqd, zqe, zqf, zqa, zqb, zqc]
          have HA : Hid (Only [] w3 (w4.alloc (.cells #[] 37)) ∧ (w4.alloc (.cells #[] 37)).heap[w4.heap.size]? = some (.cells #[] 37) ∧ w3.heap.size ≤ w4.heap.size ∧ w4.heap.size < (w4.alloc (.cells #[] 37)).heap.size) := ⟨Hw4.out.1.alloc _, (MapKept.heap_alloc w4 _).1, Hw4.out.1.size, by simp⟩
          generalize w4.heap.size = ke at HA ⊢
          generalize World.alloc w4 _ = w6 at HA hH5 ⊢
          refine wpAnyH_ready (rs := [6]) (by kernel_rfl) (by simp) ?_
          refine AllReadyH.cons rfl (fun K hK => ?_) AllReadyH.nil
          first | (with_reducible refine iteYes ?hcx ?htx; case hcx => kernel_rfl) | rw [if_pos (by rfl)]
          simp only [zqa, zqb, zqc]
          go_simp
          go_at_call 7
          refine (filled_calls a1 m1 c1 L1 f1 f2 f3 _ _ _ _ (by have := H3.out.2.2.2.2.2.2.1; omega) (H3.out.2.2.1.only (HA.out.1)) H3.out.2.2.2.1 (lawD_right pa pb pc)).mono ?_
          rintro e w7 ⟨x, g, a5, cap5, t, M, D, rfl, hF⟩
          have Hw7 : Hid (XS w3 x (fallC f1 f2 f3 (pickI pa 65537) (pickI pb 65537) (1 + pickI pc 6)) m1 t 0 g a5 cap5 (NB L1 m1) M D w7 ∧ Only [] w3 w7 ∧ (∀ b ∈ x :: g :: D, (w6).heap.size ≤ b) ∧ Only [] w6 w7) := ⟨XS.first (HA.out.1) hF H3.out.2.2.2.1 (by have := H3.out.2.2.2.2.2.2.1; omega), (HA.out.1).trans hF.ww.only, fun b hb => (hF.ww.mem (Or.inl hb)).elim (fun q => by simp at q) id, hF.ww.only⟩
          clear hF
          try go_wp2_with fail
          refine hK.out _ _ ?_ (fun hH7 => ?_)
          · (try dsimp only); exact HK.out _ Hw7.out.2.1
          clear hK K
          try simp only [Act.put, zqd, zqe, zqf, zqa, zqb, zqc]
          have HE : Hid (XS w3 x (fallC f1 f2 f3 (pickI pa 65537) (pickI pb 65537) (1 + pickI pc 6)) m1 t 0 g a5 cap5 (NB L1 m1) M D w7 ∧ Only [] w3 w7 ∧ w7.heap[ke]? = some (.cells #[] 37) ∧ ke ∉ x :: g :: D ∧ w3.heap.size ≤ ke) := ⟨Hw7.out.1, Hw7.out.2.1, (Hw7.out.2.2.2.block ke HA.out.2.2.2 (by simp)).trans HA.out.2.1, fun q => by have := Hw7.out.2.2.1 ke q; have := HA.out.2.2.2; omega, HA.out.2.2.1⟩
          clear HA Hw7 Hw4
          have hown0 : w7.ownsRow 0 37 17 (.slice (some ⟨ke, 0, none⟩) 0 0) 0 [] := ⟨rfl, Or.inr ⟨ke, 0, #[], rfl, Nat.zero_le _, HE.out.2.2.1, by omega, by unfold maxLen; omega, rfl, rfl⟩⟩
          obtain ⟨v8, w8, hr8, hown8, hgr8, hloc8⟩ := app_rows hown0 (H3.out.2.2.1.only HE.out.2.1) H3.out.2.2.2.2.2.2.2.1 (by have := H3.out.2.2.2.2.2.2.1; omega)
          have o78 : Only [ke] w7 w8 := (Only.refl [ke] w7).grown hgr8 (fun k hk => Or.inl (by simp [Value.ownBlock] at hk; simp [hk]))
          have H8 : Hid (XS w3 x (fallC f1 f2 f3 (pickI pa 65537) (pickI pb 65537) (1 + pickI pc 6)) m1 t 0 g a5 cap5 (NB L1 m1) M D w8 ∧ Only [] w3 w8 ∧ (∀ k, v8.ownBlock = some k → k ∉ x :: g :: D ∧ w3.heap.size ≤ k)) := by
            have hk : ∀ b, b ∈ x :: g :: D → b ∉ [ke] := fun b hb q => by simp only [List.mem_singleton] at q; rw [q] at hb; exact HE.out.2.2.2.1 hb
            refine ⟨HE.out.1.apart o78 hk (fun b hb => by simp only [List.mem_singleton] at hb; rw [hb]; exact HE.out.2.2.2.2), HE.out.2.1.then o78 (fun b hb => by simp only [List.mem_singleton] at hb; rw [hb]; exact Or.inr HE.out.2.2.2.2), fun k hkk => ?_⟩
            rcases hloc8 with e | e
            · rw [e] at hkk; simp [Value.ownBlock] at hkk; rw [← hkk]; exact ⟨HE.out.2.2.2.1, HE.out.2.2.2.2⟩
            · rw [e] at hkk; injection hkk with hkk; rw [← hkk]; exact ⟨fun q => by have := HE.out.1.lt q; omega, HE.out.2.1.size⟩
          have hown8b : w8.ownsRow 0 37 17 v8 m1 (rowsL L1 m1) := by simpa using hown8
          clear hown0 hown8 hgr8 hloc8 o78
          refine wpAnyH_ready (rs := [9]) (by kernel_rfl) (by simp) ?_
          refine AllReadyH.cons rfl (fun K hK => ?_) AllReadyH.nil
          first | (with_reducible refine iteYes ?hcx ?htx; case hcx => kernel_rfl) | rw [if_pos (by rfl)]
          refine step_append (s := .tmp 38) (x := .tmp 39) (t := 22) rfl (by kernel_rfl) (by kernel_rfl) hr8 ?_
          refine hK.out _ _ ?_ (fun hH8 => ?_)
          · (try dsimp only); exact HK.out _ H8.out.2.1
          clear hK K
          try simp only [Act.put, zqd, zqe, zqf, zqa, zqb, zqc]
          clear hr8
          obtain ⟨v9, w9, hr9, hown9, hgr9, hloc9⟩ := app_rows hown8b (H3.out.2.2.2.2.1.only H8.out.2.1) H3.out.2.2.2.2.2.2.2.2.1 (by have := H3.out.2.2.2.2.2.2.1; have := H3.out.2.2.2.2.2.2.2.2.2; omega)
          have o89 : Only v8.ownBlock.toList w8 w9 := (Only.refl _ w8).grown hgr9 (fun k hk => Or.inl (by simp [hk]))
          have H9 : Hid (XS w3 x (fallC f1 f2 f3 (pickI pa 65537) (pickI pb 65537) (1 + pickI pc 6)) m1 t 0 g a5 cap5 (NB L1 m1) M D w9 ∧ Only [] w3 w9) := by
            have hv : ∀ b ∈ v8.ownBlock.toList, b ∉ x :: g :: D ∧ w3.heap.size ≤ b := fun b hb => H8.out.2.2 b (by simpa using hb)
            exact ⟨H8.out.1.apart o89 (fun b hb q => (hv b q).1 hb) (fun b hb => (hv b hb).2), H8.out.2.1.then o89 (fun b hb => Or.inr (hv b hb).2)⟩
          rw [rowsL_cat] at hown9
          obtain ⟨a9, g9, c9, rfl, hS9, _, _⟩ := OwnS.of_rowN hown9
          have HB9 : Hid (BodiesAt w9 a9 (m1 + m2) (catB L1 m1 L2)) := hS9.bodies
          clear hown8b hown9 hgr9 hloc9 o89 hS9
          refine wpAnyH_ready (rs := [11]) (by kernel_rfl) (by simp) ?_
          refine AllReadyH.cons rfl (fun K hK => ?_) AllReadyH.nil
          first | (with_reducible refine iteYes ?hcx ?htx; case hcx => kernel_rfl) | rw [if_pos (by rfl)]
          refine step_append (s := .tmp 40) (x := .tmp 41) (t := 22) rfl (by kernel_rfl) (by kernel_rfl) hr9 ?_
          refine hK.out _ _ ?_ (fun hH9 => ?_)
          · (try dsimp only); exact HK.out _ H9.out.2
          clear hK K
          try simp only [Act.put, zqd, zqe, zqf, zqa, zqb, zqc]
          clear hr9
          refine wpAnyH_ready (rs := [16]) (by kernel_rfl) (by simp) ?_
          refine AllReadyH.cons rfl (fun K hK => ?_) AllReadyH.nil
          first | (with_reducible refine iteYes ?hcx ?htx; case hcx => kernel_rfl) | rw [if_pos (by rfl)]
          simp only [zqa, zqb, zqc]
          go_simp
          go_at_call 8
          refine (lawD_calls _ _ _ _).mono ?_
          rintro e w10 ⟨rfl, oo⟩
          have H10 : Hid (XS w3 x (fallC f1 f2 f3 (pickI pa 65537) (pickI pb 65537) (1 + pickI pc 6)) m1 t 0 g a5 cap5 (NB L1 m1) M D w10 ∧ Only [] w3 w10 ∧ BodiesAt w10 a9 (m1 + m2) (catB L1 m1 L2)) := ⟨H9.out.1.keep oo, H9.out.2.trans oo, HB9.out.only oo⟩
          clear oo
          try go_wp2_with fail
          refine hK.out _ _ ?_ (fun hH10 => ?_)
          · (try dsimp only); exact HK.out _ H10.out.2.1
          clear hK K
          try simp only [Act.put, zqd, zqe, zqf, zqa, zqb, zqc]
          refine wpAnyH_ready (rs := [17]) (by kernel_rfl) (by simp) ?_
          refine AllReadyH.cons rfl (fun K hK => ?_) AllReadyH.nil
          first | (with_reducible refine iteYes ?hcx ?htx; case hcx => kernel_rfl) | rw [if_pos (by rfl)]
          simp only [zqa, zqb, zqc]
          go_simp
          go_at_call 7
          refine (filled_calls a9 (m1 + m2) c9 (catB L1 m1 L2) f1 f2 f3 _ _ _ _ (by have := H3.out.2.2.2.2.2.2.1; have := H3.out.2.2.2.2.2.2.2.2.2; omega) H10.out.2.2 HFC.out (lawD_right pa pb pc)).mono ?_
          rintro e w11 ⟨y, gy, ay, capy, ty, My, Dy, rfl, hF⟩
          have H11 : Hid (XS w3 x (fallC f1 f2 f3 (pickI pa 65537) (pickI pb 65537) (1 + pickI pc 6)) m1 t 0 g a5 cap5 (NB L1 m1) M D w11 ∧ XS w3 y (fallC f1 f2 f3 (pickI pa 65537) (pickI pb 65537) (1 + pickI pc 6)) (m1 + m2) ty 0 gy ay capy (NB (catB L1 m1 L2) (m1 + m2)) My Dy w11 ∧ (∀ b, b ∈ x :: g :: D → b ∉ y :: gy :: Dy) ∧ Only [] w3 w11) := ⟨H10.out.1.keep hF.ww.only, XS.first H10.out.2.1 hF HFC.out (by have := H3.out.2.2.2.2.2.2.1; have := H3.out.2.2.2.2.2.2.2.2.2; omega), fun b hb q => by have h1 := H10.out.1.lt hb; have h2 := (hF.ww.mem (Or.inl q)).elim (fun z => by simp at z) id; omega, H10.out.2.1.trans hF.ww.only⟩
          clear hF
          try go_wp2_with fail
          refine hK.out _ _ ?_ (fun hH11 => ?_)
          · (try dsimp only); exact HK.out _ H11.out.2.2.2
          clear hK K
          try simp only [Act.put, zqd, zqe, zqf, zqa, zqb, zqc]
          refine wpAnyH_take (i := 18) (v := ?_) rfl (by kernel_rfl) (by kernel_rfl) (by kernel_rfl) (fun _ _ _ h => h) (Or.inl ⟨by kernel_rfl, ?_⟩) (by assumption) ?_
          rotate_left
          · intro w'' hSw; (try dsimp only at hSw); simp only [zqa, zqb, zqc]; (go_simp <;> with_reducible rfl)
          try simp only [Act.put, zqd, zqe, zqf, zqa, zqb, zqc]
          refine wpAnyH_take (i := 19) (v := ?_) rfl (by kernel_rfl) (by kernel_rfl) (by kernel_rfl) (fun _ _ _ h => h) (Or.inl ⟨by kernel_rfl, ?_⟩) (by assumption) ?_
          rotate_left
          · intro w'' hSw; (try dsimp only at hSw); simp only [zqa, zqb, zqc]; (go_simp <;> with_reducible rfl)
          try simp only [Act.put, zqd, zqe, zqf, zqa, zqb, zqc]
          refine wpAnyH_done (by kernel_rfl) ?_ _
          go_wp2_with fail
          go_meet
          case rel => exact ⟨x, y, g, a5, cap5, t, M, D, gy, ay, capy, ty, My, Dy, rfl, rfl, H11.out⟩
    · as_aux_lemma =>
        first | (with_reducible refine iteYes ?hcx ?htx; case hcx => kernel_rfl) | rw [if_pos (by rfl)]
        simp only [zqa, zqb, zqc]
        go_simp
        refine hK.out _ _ ?_ (fun hH4 => ?_)
        · (try dsimp only); exact HK.out _ ((Only.refl [] w3).alloc _).drew
        clear hK K
        try simp only [Act.put, zqd, zqe, zqf, zqa, zqb, zqc]
        have HA : Hid (Only [] w3 (w3.alloc (.cells #[] 37)).drew ∧ (w3.alloc (.cells #[] 37)).drew.heap[w3.heap.size]? = some (.cells #[] 37) ∧ w3.heap.size ≤ w3.heap.size ∧ w3.heap.size < (w3.alloc (.cells #[] 37)).drew.heap.size) := ⟨((Only.refl [] w3).alloc _).drew, (MapKept.heap_alloc w3 _).1, Nat.le_refl _, by simp⟩
        have HKE : Hid (w3.heap.size ≤ w3.heap.size) := Nat.le_refl _
        revert HA HKE
        generalize hke : w3.heap.size = ke
        have HKE2 : Hid (w3.heap.size ≤ ke) := Nat.le_of_eq hke
        clear hke
        intro HA HKE
        generalize World.drew (World.alloc w3 _) = w4 at HA hH4 ⊢
        refine wpAnyH_ready (rs := [5]) (by kernel_rfl) (by simp) ?_
        refine AllReadyH.cons rfl (fun K hK => ?_) AllReadyH.nil
        first | (with_reducible refine iteYes ?hcx ?htx; case hcx => kernel_rfl) | rw [if_pos (by rfl)]
        simp only [zqa, zqb, zqc]
        go_simp
        go_at_call 8
        refine (lawD_calls _ _ _ _).mono ?_
        rintro e w6 ⟨rfl, oo⟩
        have Hw6 : Hid (Only [] w3 w6 ∧ Only [] w4 w6) := ⟨(HA.out.1).trans oo, oo⟩
        clear oo
        try go_wp2_with fail
        refine hK.out _ _ ?_ (fun hH5 => ?_)
        · (try dsimp only); exact HK.out _ Hw6.out.1
        clear hK K
        try simp only [Act.put, zqd, zqe, zqf, zqa, zqb, zqc]
        refine wpAnyH_ready (rs := [6]) (by kernel_rfl) (by simp) ?_
        refine AllReadyH.cons rfl (fun K hK => ?_) AllReadyH.nil
        first | (with_reducible refine iteYes ?hcx ?htx; case hcx => kernel_rfl) | rw [if_pos (by rfl)]
        simp only [zqa, zqb, zqc]
        go_simp
        go_at_call 7
        refine (filled_calls a1 m1 c1 L1 f1 f2 f3 _ _ _ _ (by have := H3.out.2.2.2.2.2.2.1; omega) (H3.out.2.2.1.only (Hw6.out.1)) H3.out.2.2.2.1 (lawD_right pa pb pc)).mono ?_
        rintro e w7 ⟨x, g, a5, cap5, t, M, D, rfl, hF⟩
        have Hw7 : Hid (XS w3 x (fallC f1 f2 f3 (pickI pa 65537) (pickI pb 65537) (1 + pickI pc 6)) m1 t 0 g a5 cap5 (NB L1 m1) M D w7 ∧ Only [] w3 w7 ∧ (∀ b ∈ x :: g :: D, (w6).heap.size ≤ b) ∧ Only [] w6 w7) := ⟨XS.first (Hw6.out.1) hF H3.out.2.2.2.1 (by have := H3.out.2.2.2.2.2.2.1; omega), (Hw6.out.1).trans hF.ww.only, fun b hb => (hF.ww.mem (Or.inl hb)).elim (fun q => by simp at q) id, hF.ww.only⟩
        clear hF
        try go_wp2_with fail
        refine hK.out _ _ ?_ (fun hH7 => ?_)
        · (try dsimp only); exact HK.out _ Hw7.out.2.1
        clear hK K
        try simp only [Act.put, zqd, zqe, zqf, zqa, zqb, zqc]
        have HE : Hid (XS w3 x (fallC f1 f2 f3 (pickI pa 65537) (pickI pb 65537) (1 + pickI pc 6)) m1 t 0 g a5 cap5 (NB L1 m1) M D w7 ∧ Only [] w3 w7 ∧ w7.heap[ke]? = some (.cells #[] 37) ∧ ke ∉ x :: g :: D ∧ w3.heap.size ≤ ke) := ⟨Hw7.out.1, Hw7.out.2.1, (Hw7.out.2.2.2.block ke (Nat.lt_of_lt_of_le HA.out.2.2.2 Hw6.out.2.size) (by simp)).trans ((Hw6.out.2.block ke HA.out.2.2.2 (by simp)).trans HA.out.2.1), fun q => by have := Hw7.out.2.2.1 ke q; have := HA.out.2.2.2; have := Hw6.out.2.size; omega, HKE2.out⟩
        clear HA HKE HKE2 Hw7 Hw6
        have hown0 : w7.ownsRow 0 37 17 (.slice (some ⟨ke, 0, none⟩) 0 0) 0 [] := ⟨rfl, Or.inr ⟨ke, 0, #[], rfl, Nat.zero_le _, HE.out.2.2.1, by omega, by unfold maxLen; omega, rfl, rfl⟩⟩
        obtain ⟨v8, w8, hr8, hown8, hgr8, hloc8⟩ := app_rows hown0 (H3.out.2.2.1.only HE.out.2.1) H3.out.2.2.2.2.2.2.2.1 (by have := H3.out.2.2.2.2.2.2.1; omega)
        have o78 : Only [ke] w7 w8 := (Only.refl [ke] w7).grown hgr8 (fun k hk => Or.inl (by simp [Value.ownBlock] at hk; simp [hk]))
        have H8 : Hid (XS w3 x (fallC f1 f2 f3 (pickI pa 65537) (pickI pb 65537) (1 + pickI pc 6)) m1 t 0 g a5 cap5 (NB L1 m1) M D w8 ∧ Only [] w3 w8 ∧ (∀ k, v8.ownBlock = some k → k ∉ x :: g :: D ∧ w3.heap.size ≤ k)) := by
          have hk : ∀ b, b ∈ x :: g :: D → b ∉ [ke] := fun b hb q => by simp only [List.mem_singleton] at q; rw [q] at hb; exact HE.out.2.2.2.1 hb
          refine ⟨HE.out.1.apart o78 hk (fun b hb => by simp only [List.mem_singleton] at hb; rw [hb]; exact HE.out.2.2.2.2), HE.out.2.1.then o78 (fun b hb => by simp only [List.mem_singleton] at hb; rw [hb]; exact Or.inr HE.out.2.2.2.2), fun k hkk => ?_⟩
          rcases hloc8 with e | e
          · rw [e] at hkk; simp [Value.ownBlock] at hkk; rw [← hkk]; exact ⟨HE.out.2.2.2.1, HE.out.2.2.2.2⟩
          · rw [e] at hkk; injection hkk with hkk; rw [← hkk]; exact ⟨fun q => by have := HE.out.1.lt q; omega, HE.out.2.1.size⟩
        have hown8b : w8.ownsRow 0 37 17 v8 m1 (rowsL L1 m1) := by simpa using hown8
        clear hown0 hown8 hgr8 hloc8 o78
        refine wpAnyH_ready (rs := [9]) (by kernel_rfl) (by simp) ?_
        refine AllReadyH.cons rfl (fun K hK => ?_) AllReadyH.nil
        first | (with_reducible refine iteYes ?hcx ?htx; case hcx => kernel_rfl) | rw [if_pos (by rfl)]
        refine step_append (s := .tmp 38) (x := .tmp 39) (t := 22) rfl (by kernel_rfl) (by kernel_rfl) hr8 ?_
        refine hK.out _ _ ?_ (fun hH8 => ?_)
        · (try dsimp only); exact HK.out _ H8.out.2.1
        clear hK K
        try simp only [Act.put, zqd, zqe, zqf, zqa, zqb, zqc]
        clear hr8
        obtain ⟨v9, w9, hr9, hown9, hgr9, hloc9⟩ := app_rows hown8b (H3.out.2.2.2.2.1.only H8.out.2.1) H3.out.2.2.2.2.2.2.2.2.1 (by have := H3.out.2.2.2.2.2.2.1; have := H3.out.2.2.2.2.2.2.2.2.2; omega)
        have o89 : Only v8.ownBlock.toList w8 w9 := (Only.refl _ w8).grown hgr9 (fun k hk => Or.inl (by simp [hk]))
        have H9 : Hid (XS w3 x (fallC f1 f2 f3 (pickI pa 65537) (pickI pb 65537) (1 + pickI pc 6)) m1 t 0 g a5 cap5 (NB L1 m1) M D w9 ∧ Only [] w3 w9) := by
          have hv : ∀ b ∈ v8.ownBlock.toList, b ∉ x :: g :: D ∧ w3.heap.size ≤ b := fun b hb => H8.out.2.2 b (by simpa using hb)
          exact ⟨H8.out.1.apart o89 (fun b hb q => (hv b q).1 hb) (fun b hb => (hv b hb).2), H8.out.2.1.then o89 (fun b hb => Or.inr (hv b hb).2)⟩
        rw [rowsL_cat] at hown9
        obtain ⟨a9, g9, c9, rfl, hS9, _, _⟩ := OwnS.of_rowN hown9
        have HB9 : Hid (BodiesAt w9 a9 (m1 + m2) (catB L1 m1 L2)) := hS9.bodies
        clear hown8b hown9 hgr9 hloc9 o89 hS9
        refine wpAnyH_ready (rs := [11]) (by kernel_rfl) (by simp) ?_
        refine AllReadyH.cons rfl (fun K hK => ?_) AllReadyH.nil
        first | (with_reducible refine iteYes ?hcx ?htx; case hcx => kernel_rfl) | rw [if_pos (by rfl)]
        refine step_append (s := .tmp 40) (x := .tmp 41) (t := 22) rfl (by kernel_rfl) (by kernel_rfl) hr9 ?_
        refine hK.out _ _ ?_ (fun hH9 => ?_)
        · (try dsimp only); exact HK.out _ H9.out.2
        clear hK K
        try simp only [Act.put, zqd, zqe, zqf, zqa, zqb, zqc]
        clear hr9
        refine wpAnyH_ready (rs := [16]) (by kernel_rfl) (by simp) ?_
        refine AllReadyH.cons rfl (fun K hK => ?_) AllReadyH.nil
        first | (with_reducible refine iteYes ?hcx ?htx; case hcx => kernel_rfl) | rw [if_pos (by rfl)]
        simp only [zqa, zqb, zqc]
        go_simp
        go_at_call 8
        refine (lawD_calls _ _ _ _).mono ?_
        rintro e w10 ⟨rfl, oo⟩
        have H10 : Hid (XS w3 x (fallC f1 f2 f3 (pickI pa 65537) (pickI pb 65537) (1 + pickI pc 6)) m1 t 0 g a5 cap5 (NB L1 m1) M D w10 ∧ Only [] w3 w10 ∧ BodiesAt w10 a9 (m1 + m2) (catB L1 m1 L2)) := ⟨H9.out.1.keep oo, H9.out.2.trans oo, HB9.out.only oo⟩
        clear oo
        try go_wp2_with fail
        refine hK.out _ _ ?_ (fun hH10 => ?_)
        · (try dsimp only); exact HK.out _ H10.out.2.1
        clear hK K
        try simp only [Act.put, zqd, zqe, zqf, zqa, zqb, zqc]
        refine wpAnyH_ready (rs := [17]) (by kernel_rfl) (by simp) ?_
        refine AllReadyH.cons rfl (fun K hK => ?_) AllReadyH.nil
        first | (with_reducible refine iteYes ?hcx ?htx; case hcx => kernel_rfl) | rw [if_pos (by rfl)]
        simp only [zqa, zqb, zqc]
        go_simp
        go_at_call 7
        refine (filled_calls a9 (m1 + m2) c9 (catB L1 m1 L2) f1 f2 f3 _ _ _ _ (by have := H3.out.2.2.2.2.2.2.1; have := H3.out.2.2.2.2.2.2.2.2.2; omega) H10.out.2.2 HFC.out (lawD_right pa pb pc)).mono ?_
        rintro e w11 ⟨y, gy, ay, capy, ty, My, Dy, rfl, hF⟩
        have H11 : Hid (XS w3 x (fallC f1 f2 f3 (pickI pa 65537) (pickI pb 65537) (1 + pickI pc 6)) m1 t 0 g a5 cap5 (NB L1 m1) M D w11 ∧ XS w3 y (fallC f1 f2 f3 (pickI pa 65537) (pickI pb 65537) (1 + pickI pc 6)) (m1 + m2) ty 0 gy ay capy (NB (catB L1 m1 L2) (m1 + m2)) My Dy w11 ∧ (∀ b, b ∈ x :: g :: D → b ∉ y :: gy :: Dy) ∧ Only [] w3 w11) := ⟨H10.out.1.keep hF.ww.only, XS.first H10.out.2.1 hF HFC.out (by have := H3.out.2.2.2.2.2.2.1; have := H3.out.2.2.2.2.2.2.2.2.2; omega), fun b hb q => by have h1 := H10.out.1.lt hb; have h2 := (hF.ww.mem (Or.inl q)).elim (fun z => by simp at z) id; omega, H10.out.2.1.trans hF.ww.only⟩
        clear hF
        try go_wp2_with fail
        refine hK.out _ _ ?_ (fun hH11 => ?_)
        · (try dsimp only); exact HK.out _ H11.out.2.2.2
        clear hK K
        try simp only [Act.put, zqd, zqe, zqf, zqa, zqb, zqc]
        refine wpAnyH_take (i := 18) (v := ?_) rfl (by kernel_rfl) (by kernel_rfl) (by kernel_rfl) (fun _ _ _ h => h) (Or.inl ⟨by kernel_rfl, ?_⟩) (by assumption) ?_
        rotate_left
        · intro w'' hSw; (try dsimp only at hSw); simp only [zqa, zqb, zqc]; (go_simp <;> with_reducible rfl)
        try simp only [Act.put, zqd, zqe, zqf, zqa, zqb, zqc]
        refine wpAnyH_take (i := 19) (v := ?_) rfl (by kernel_rfl) (by kernel_rfl) (by kernel_rfl) (fun _ _ _ h => h) (Or.inl ⟨by kernel_rfl, ?_⟩) (by assumption) ?_
        rotate_left
        · intro w'' hSw; (try dsimp only at hSw); simp only [zqa, zqb, zqc]; (go_simp <;> with_reducible rfl)
        try simp only [Act.put, zqd, zqe, zqf, zqa, zqb, zqc]
        refine wpAnyH_done (by kernel_rfl) ?_ _
        go_wp2_with fail
        go_meet
        case rel => exact ⟨x, y, g, a5, cap5, t, M, D, gy, ay, capy, ty, My, Dy, rfl, rfl, H11.out⟩
  case rest =>
    obtain ⟨x, y, g, a5, cap5, t, M, D, gy, ay, capy, ty, My, Dy, rfl, rfl, hX, hY, hD, hO⟩ := hcut
    have HL : Hid (m1 ≤ 20 ∧ m2 ≤ 20 ∧ Only [] w w3) := ⟨H3.out.2.2.2.2.2.2.1, H3.out.2.2.2.2.2.2.2.2.2, H3.out.2.1⟩
    have HP : Hid (PW2 w3 x y (fallC f1 f2 f3 (pickI pa 65537) (pickI pb 65537) (1 + pickI pc 6)) m1 (m1 + m2) t ty 0 g a5 cap5 (NB L1 m1) M D gy ay capy (NB (catB L1 m1 L2) (m1 + m2)) My Dy wc) := ⟨hX, hY, hD, cat_agree L1 L2 m1 m2⟩
    clear hX hY hD hO HK H3 HFC
    generalize (fallC f1 f2 f3 (pickI pa 65537) (pickI pb 65537) (1 + pickI pc 6)) = cc at HP
    go_wp2_with fail
    go_loopg [19] 16 (fun k idx wr => ∃ (i : Nat) (g : Nat) (a : Option Addr) (cap : Nat) (B : Nat → Bd) (M : List (Int × Bx)) (D : List Nat) (gy : Nat) (ay : Option Addr) (capy : Nat) (C : Nat → Bd) (My : List (Int × Bx)) (Dy : List Nat), idx = .int .i64 (i : Int) ∧ Hid (i ≤ 15 ∧ k = 16 - i) ∧ Hid (PW2 w3 x y cc m1 (m1 + m2) t ty (i : Int) g a cap B M D gy ay capy C My Dy wr))
    case atStart => exact ⟨0, g, a5, cap5, _, M, D, gy, ay, capy, _, My, Dy, rfl, ⟨by omega, rfl⟩, HP⟩
    case round =>
      clear HP
      obtain ⟨i, g, a, cap, B, M, D, gy, ay, capy, C, My, Dy, rfl, H6, HP⟩ := hrel
      have hi15 := H6.out.1
      have hm1 := HL.out.1
      have hm2 := HL.out.2.1
      go_wp2_with fail
      refine (pickW_calls ps 15 _ (by omega) (by omega)).mono ?_
      rintro e w6 ⟨p, rfl, hp0, hp1, hw⟩
      have HP6 : Hid (PW2 w3 x y cc m1 (m1 + m2) t ty (i : Int) g a cap B M D gy ay capy C My Dy w6) := by rw [hw]; exact HP.out
      clear hw HP
      by_cases hip : (i : Int) < 1 + p
      · go_wp2_with fail
        refine (wtouches_calls w3 y gy cc ay (m1 + m2) capy ty _ (i : Int) C My Dy w6 (by omega) HP6.out.ys.ww HP6.out.ys.num.rises).mono ?_
        rintro e w7 ⟨v, rfl, hT⟩
        obtain ⟨ts, hts⟩ : ∃ ts, ts = tchL C (m1 + m2) (pairsM My) := ⟨_, rfl⟩
        rw [← hts] at hT
        obtain ⟨b, d, rfl, htc, hbn⟩ := hT.sl.touches (by rw [hts]; exact tchL_in HP6.out.ys.i64)
        have HN : Hid (ts.length ≤ 3600) := by
          show ts.length ≤ 3600
          rw [hts]
          refine Nat.le_trans (tchL_len C _ _) (Nat.le_trans (pairsM_most My) ?_)
          exact Nat.mul_le_mul HP6.out.ys.ww.tree.small HP6.out.ys.ww.tree.small
        obtain ⟨T, hTT⟩ : ∃ T : Nat → Tc, T = fun j => ts.getD j tc0 := ⟨_, rfl⟩
        obtain ⟨m, hm⟩ : ∃ m, m = ts.length := ⟨_, rfl⟩
        have HX : Hid ((∀ j, j < m → ¬ ((T j).a ≤ (m1 : Int) ∧ (m1 : Int) < (T j).b)) → ∀ u ∈ tchL C (m1 + m2) (pairsM My), ¬ (u.a ≤ (m1 : Int) ∧ (m1 : Int) < u.b)) := fun hall u hu => by
          rw [← hts] at hu
          obtain ⟨j, hj, e⟩ := List.getElem_of_mem hu
          have h1 := hall j (by rw [hm]; exact hj)
          rw [hTT] at h1
          simp only [List.getD_eq_getElem?_getD, List.getElem?_eq_getElem hj, Option.getD_some, e] at h1
          exact h1
        rw [← hTT, ← hm] at htc
        rw [← hm] at HN
        have HTC : Hid (TouchesAt w7 b m T) := htc
        have HP7 : Hid (PW2 w3 x y cc m1 (m1 + m2) t ty (i : Int) g a cap B M D gy ay capy C My Dy w7) := HP6.out.keep hT.only
        rw [← hm]
        clear hT hts htc hbn hTT hm HP6
        go_wp2_with fail
        go_loopg [21] m (fun k idx wr => ∃ j : Nat, idx = .int .i64 (j : Int) ∧ Hid (j ≤ m ∧ k = m - j ∧ ∀ q, q < j → ¬ ((T q).a ≤ (m1 : Int) ∧ (m1 : Int) < (T q).b)) ∧ Hid (Only [] w7 wr))
        case atStart => exact ⟨0, rfl, ⟨by omega, rfl, fun q hq => by omega⟩, Only.refl _ _⟩
        case round =>
          obtain ⟨j, rfl, HJ, HO⟩ := hrel
          have hm36 := HN.out
          by_cases hj : j < m
          · have hjl : (j : Int) < (m : Int) := by omega
            obtain ⟨_, _, gb, ob, rfl, e0, e1, _⟩ := (HTC.out.only HO.out) j hj
            have HJ2 : Hid (¬ ((T j).a ≤ (m1 : Int) ∧ (m1 : Int) < (T j).b) → ∀ q, q < j + 1 → ¬ ((T q).a ≤ (m1 : Int) ∧ (m1 : Int) < (T q).b)) := fun hno q hq => by
              by_cases e : q = j
              · rw [e]; exact hno
              · exact HJ.out.2.2 q (by omega)
            generalize T j = tt at e0 e1 HJ2
            by_cases hA : tt.a ≤ (m1 : Int)
            · by_cases hBt : (m1 : Int) < tt.b
              · go_wp2_with fail
                go_ret
                exact ⟨rfl, HL.out.2.2.trans (HP7.out.xs.ww.only.trans HO.out)⟩
              · have HJ3 := HJ2.out (fun q => hBt q.2)
                have hBf : decide ((m1 : Int) < tt.b) = false := by simpa using hBt
                have HJ4 : Hid (∀ q, q < j + 1 → ¬ ((T q).a ≤ (m1 : Int) ∧ (m1 : Int) < (T q).b)) := HJ3
                clear hBt HJ3 HJ2
                go_wp2_with fail
                go_roundg (m - (j + 1))
                case measure => have := HJ.out.2.1; omega
                case rel => exact ⟨j + 1, by go_num, ⟨by omega, rfl, HJ4.out⟩, HO⟩
            · have HJ3 := HJ2.out (fun q => hA q.1)
              have hAf : decide (tt.a ≤ (m1 : Int)) = false := by simpa using hA
              have HJ4 : Hid (∀ q, q < j + 1 → ¬ ((T q).a ≤ (m1 : Int) ∧ (m1 : Int) < (T q).b)) := HJ3
              clear hA HJ3 HJ2
              go_wp2_with fail
              go_roundg (m - (j + 1))
              case measure => have := HJ.out.2.1; omega
              case rel => exact ⟨j + 1, by go_num, ⟨by omega, rfl, HJ4.out⟩, HO⟩
          · have hjl : ¬ (j : Int) < (m : Int) := by omega
            have HXX : Hid (∀ u ∈ tchL C (m1 + m2) (pairsM My), ¬ (u.a ≤ (m1 : Int) ∧ (m1 : Int) < u.b)) := HX.out (fun q hq => HJ.out.2.2 q (by omega))
            have HP8 : Hid (PW2 w3 x y cc m1 (m1 + m2) t ty (i : Int) g a cap B M D gy ay capy C My Dy wr) := HP7.out.keep HO.out
            clear HTC HX HP7 HJ HO
            go_wp2_with fail
            refine (step_calls wr x g cc a m1 cap t (m1 : Int) (i : Int) B M D wr (by omega) HP8.out.xs.ww.rebase HP8.out.xs.num.rises HP8.out.xs.i64 HP8.out.xs.sl (by omega) (by omega)).mono ?_
            rintro e w9 ⟨rfl, g9, a9, cap9, D9, hW9, hS9⟩
            have H9 : Hid (XS w3 x cc m1 t ((i : Int) + 1) g9 a9 cap9 (stepW cc B m1 M) (hangM (stepW cc B m1 M) M m1) D9 w9 ∧ XS w3 y cc (m1 + m2) ty (i : Int) gy ay capy C My Dy w9 ∧ (∀ b, b ∈ x :: g9 :: D9 → b ∉ y :: gy :: Dy) ∧ Agree m1 (stepW cc B m1 M) (stepW cc C (m1 + m2) My)) :=
              ⟨HP8.out.xs.step hW9 hS9, HP8.out.ys.apart hW9.only (fun b hb q => HP8.out.dis b q hb) (fun b hb => HP8.out.xs.new hb), dis_step hW9 HP8.out.dis (fun b hb => HP8.out.ys.lt hb), both_step HP8.out.xs HP8.out.ys (by omega) HP8.out.ag HXX.out⟩
            clear hW9 hS9 HP8 HXX
            go_wp2_with fail
            refine (step_calls w9 y gy cc ay (m1 + m2) capy ty _ (i : Int) C My Dy w9 (by omega) H9.out.2.1.ww.rebase H9.out.2.1.num.rises H9.out.2.1.i64 H9.out.2.1.sl (by omega) (by omega)).mono ?_
            rintro e w10 ⟨rfl, g10, a10, cap10, D10, hW10, hS10⟩
            have H10 : Hid (PW2 w3 x y cc m1 (m1 + m2) t ty ((i : Int) + 1) g9 a9 cap9 (stepW cc B m1 M) (hangM (stepW cc B m1 M) M m1) D9 g10 a10 cap10 (stepW cc C (m1 + m2) My) (hangM (stepW cc C (m1 + m2) My) My (m1 + m2)) D10 w10) := by
              have d1 := dis_step hW10 (fun b hb q => H9.out.2.2.1 b q hb) (fun b hb => H9.out.1.lt hb)
              exact ⟨H9.out.1.apart hW10.only H9.out.2.2.1 (fun b hb => H9.out.2.1.new hb), H9.out.2.1.step hW10 hS10, fun b hb q => d1 b q hb, H9.out.2.2.2⟩
            clear hW10 hS10 H9
            obtain ⟨B', hB'⟩ : ∃ B', B' = stepW cc B m1 M := ⟨_, rfl⟩
            obtain ⟨C', hC'⟩ : ∃ C', C' = stepW cc C (m1 + m2) My := ⟨_, rfl⟩
            rw [← hB', ← hC'] at H10
            clear hB' hC'
            go_wp2_with fail
            refine (bodies_calls x cc a9 m1 cap9 t (m1 : Int) ((i : Int) + 1) B' w10 (by omega) H10.out.xs.ww.wa H10.out.xs.ww.own.bodies H10.out.xs.sl).mono ?_
            rintro e w11 ⟨ap, gp, cp, rfl, hOp, op, _, _⟩
            have H11 : Hid (PW2 w3 x y cc m1 (m1 + m2) t ty ((i : Int) + 1) g9 a9 cap9 B' (hangM B' M m1) D9 g10 a10 cap10 C' (hangM C' My (m1 + m2)) D10 w11 ∧ BodiesAt w11 ap m1 B') := ⟨H10.out.keep op, hOp.bodies⟩
            clear hOp op H10
            go_wp2_with fail
            refine (bodies_calls y cc a10 (m1 + m2) cap10 ty _ ((i : Int) + 1) C' w11 (by omega) H11.out.1.ys.ww.wa H11.out.1.ys.ww.own.bodies H11.out.1.ys.sl).mono ?_
            rintro e w12 ⟨aq, gq, cq, rfl, hOq, oq, _, _⟩
            have H12 : Hid (PW2 w3 x y cc m1 (m1 + m2) t ty ((i : Int) + 1) g9 a9 cap9 B' (hangM B' M m1) D9 g10 a10 cap10 C' (hangM C' My (m1 + m2)) D10 w12 ∧ BodiesAt w12 ap m1 B' ∧ BodiesAt w12 aq (m1 + m2) C') := ⟨H11.out.1.keep oq, H11.out.2.only oq, hOq.bodies⟩
            clear hOq oq H11
            go_wp2_with fail
            go_loopg [24] m1 (fun k idx wr => ∃ j : Nat, idx = .int .i64 (j : Int) ∧ Hid (j ≤ m1 ∧ k = m1 - j) ∧ Hid (Only [] w12 wr))
            case atStart => exact ⟨0, rfl, ⟨by omega, rfl⟩, Only.refl _ _⟩
            case round =>
              obtain ⟨k, rfl, HK3, HO3⟩ := hrel
              by_cases hk : k < m1
              · have hkl : (k : Int) < (m1 : Int) := by omega
                have hkN : (k : Int) < (m1 : Int) + (m2 : Int) := by omega
                obtain ⟨gi, oi, rfl, hci⟩ := H12.out.2.1.allO hk
                obtain ⟨ga, oa, rfl, hca⟩ := H12.out.2.2.allO (show k < m1 + m2 by omega)
                rw [← H12.out.1.ag k hk] at hca
                generalize B' k = q at hci hca
                have HCI : Hid (∀ w', Only [] w12 w' → AllO w' gi (oi + k * 17) q) := fun w' o => hci.only o
                have HCA : Hid (∀ w', Only [] w12 w' → AllO w' ga (oa + k * 17) q) := fun w' o => hca.only o
                clear hci hca
                go_upto_region 24 with fail
                refine wp_region_held_drew (S := (fun w' => Only [] w12 w')) (by kernel_rfl) ?_ (fun hHeld1 => ?_)
                · (try dsimp only); exact HO3.out.drew
                refine wpAnyH_take (i := 0) (v := ?_) rfl (by kernel_rfl) (by kernel_rfl) (by kernel_rfl) (fun _ _ _ h => h) (Or.inl ⟨by kernel_rfl, ?_⟩) (by assumption) ?_
                rotate_left
                · intro w'' hSw; (try dsimp only at hSw); simp only [zqa, zqb, zqc]; (go_simp <;> with_reducible rfl)
                try simp only [Act.put, zqd, zqe, zqf, zqa, zqb, zqc]
                refine wpAnyH_take (i := 1) (v := ?_) rfl (by kernel_rfl) (by kernel_rfl) (by kernel_rfl) (fun _ _ _ h => h) (Or.inl ⟨by kernel_rfl, ?_⟩) (by assumption) ?_
                rotate_left
                · intro w'' hSw; (try dsimp only at hSw); simp only [zqa, zqb, zqc]; (go_simp <;> with_reducible rfl)
                try simp only [Act.put, zqd, zqe, zqf, zqa, zqb, zqc]
                refine wpAnyH_take (i := 2) (v := ?_) rfl (by kernel_rfl) (by kernel_rfl) (by kernel_rfl) (fun _ _ _ h => h) (Or.inl ⟨by kernel_rfl, ?_⟩) (by assumption) ?_
                rotate_left
                · intro w'' hSw; (try dsimp only at hSw); simp only [zqa, zqb, zqc]; (go_simp <;> with_reducible rfl)
                try simp only [Act.put, zqd, zqe, zqf, zqa, zqb, zqc]
                refine wpAnyH_take (i := 3) (v := bdV q) rfl (by kernel_rfl) (by kernel_rfl) (by kernel_rfl) (fun _ _ _ h => h) (Or.inl ⟨by kernel_rfl, ?_⟩) (by assumption) ?_
                · intro w'' hSw; (try dsimp only at hSw); simp only [zqa, zqb, zqc]; exact load_bd (k := 119) (g := gi) (o := oi + k * 17) rfl (by kernel_rfl) (HCI.out _ hSw)
                try simp only [Act.put, zqd, zqe, zqf, zqa, zqb, zqc]
                refine wpAnyH_take (i := 4) (v := ?_) rfl (by kernel_rfl) (by kernel_rfl) (by kernel_rfl) (fun _ _ _ h => h) (Or.inl ⟨by kernel_rfl, ?_⟩) (by assumption) ?_
                rotate_left
                · intro w'' hSw; (try dsimp only at hSw); simp only [zqa, zqb, zqc]; (go_simp <;> with_reducible rfl)
                try simp only [Act.put, zqd, zqe, zqf, zqa, zqb, zqc]
                refine wpAnyH_take (i := 5) (v := ?_) rfl (by kernel_rfl) (by kernel_rfl) (by kernel_rfl) (fun _ _ _ h => h) (Or.inl ⟨by kernel_rfl, ?_⟩) (by assumption) ?_
                rotate_left
                · intro w'' hSw; (try dsimp only at hSw); simp only [zqa, zqb, zqc]; (go_simp <;> with_reducible rfl)
                try simp only [Act.put, zqd, zqe, zqf, zqa, zqb, zqc]
                refine wpAnyH_take (i := 6) (v := ?_) rfl (by kernel_rfl) (by kernel_rfl) (by kernel_rfl) (fun _ _ _ h => h) (Or.inl ⟨by kernel_rfl, ?_⟩) (by assumption) ?_
                rotate_left
                · intro w'' hSw; (try dsimp only at hSw); simp only [zqa, zqb, zqc]; (go_simp <;> with_reducible rfl)
                try simp only [Act.put, zqd, zqe, zqf, zqa, zqb, zqc]
                refine wpAnyH_take (i := 7) (v := bdV q) rfl (by kernel_rfl) (by kernel_rfl) (by kernel_rfl) (fun _ _ _ h => h) (Or.inl ⟨by kernel_rfl, ?_⟩) (by assumption) ?_
                · intro w'' hSw; (try dsimp only at hSw); simp only [zqa, zqb, zqc]; exact load_bd (k := 123) (g := ga) (o := oa + k * 17) rfl (by kernel_rfl) (HCA.out _ hSw)
                try simp only [Act.put, zqd, zqe, zqf, zqa, zqb, zqc]
                refine wpAnyH_take (i := 8) (v := .bool false) rfl (by kernel_rfl) (by kernel_rfl) (by kernel_rfl) (fun _ _ _ h => h) (Or.inl ⟨by kernel_rfl, ?_⟩) (by assumption) ?_
                · intro w'' hSw; (try dsimp only at hSw); simp only [zqa, zqb, zqc]; exact neq_bd (j := 120) (k := 124) (q := q) rfl (by kernel_rfl) (by kernel_rfl)
                try simp only [Act.put, zqd, zqe, zqf, zqa, zqb, zqc]
                refine wpAnyH_done (by kernel_rfl) ?_ _
                have HO4 : Hid (Only [] w12 wr.drew) := HO3.out.drew
                clear HCI HCA
                go_wp2_with fail
                go_roundg (m1 - (k + 1))
                case measure => have := HK3.out.2; omega
                case rel => exact ⟨k + 1, by go_num, ⟨by omega, rfl⟩, HO4⟩
              · have hkl : ¬ (k : Int) < (m1 : Int) := by omega
                go_wp2_with fail
                go_roundg (16 - (i + 1))
                case measure => have := H6.out.2; omega
                case rel =>
                  refine ⟨i + 1, g9, a9, cap9, B', hangM B' M m1, D9, g10, a10, cap10, C', hangM C' My (m1 + m2), D10, by go_num, ⟨by omega, rfl⟩, ?_⟩
                  have e2 : ((i + 1 : Nat) : Int) = (i : Int) + 1 := by omega
                  rw [e2]
                  exact H12.out.1.keep HO3.out
      · have hip2 : decide ((i : Int) < 1 + p) = false := by simpa using hip
        clear hip
        go_wp2_with fail
        go_ret
        exact ⟨rfl, HL.out.2.2.trans HP6.out.xs.ww.only⟩
end Go.Proofs.YtbfkloclmlnahabGreat

namespace Go.Proofs.YtbfkloclmlnahabGreat.SvF
open Go.ChangeShapes Go.WideShapes Go.ChangeAt Go.RowKit Go.Joins Go.Deep
set_option linter.unusedVariables false

theorem own : ownKnob Tryz.prog.godebug = none := by kernel_rfl
theorem laidOut : laidOutB Tryz.prog = true := by kernel_rfl
theorem cellsInt : Tryz.prog.cellsOf 3 = 1 := by kernel_rfl
theorem cellsVec : Tryz.prog.cellsOf 24 = 3 := by kernel_rfl
theorem cellsShape : Tryz.prog.cellsOf 35 = 4 := by kernel_rfl
theorem cellsBody : Tryz.prog.cellsOf 37 = 17 := by kernel_rfl
section
variable {H : Type} {P : Program} {enc : TypeId × Value → H} {w : World} {base : Nat} {sp : Nat → Bool} {held : Bool}
theorem trod_struct8 {t : TypeId} {f0 f1 f2 f3 f4 f5 f6 f7 : Field} {fuel : Nat} {cs : List Value} {x : DataW H × List MemPlace} (ht : P.underlying t = some (.struct #[f0, f1, f2, f3, f4, f5, f6, f7])) (h : DataW.trod enc P w base sp held fuel t cs = some x) :
    ∃ y0 y1 y2 y3 y4 y5 y6 y7 n, cs.length = P.cellsOf t ∧ DataW.trod enc P w base sp held n f0.type ((cs.drop f0.offset).take (P.cellsOf f0.type)) = some y0 ∧ DataW.trod enc P w base sp held n f1.type ((cs.drop f1.offset).take (P.cellsOf f1.type)) = some y1 ∧ DataW.trod enc P w base sp held n f2.type ((cs.drop f2.offset).take (P.cellsOf f2.type)) = some y2 ∧ DataW.trod enc P w base sp held n f3.type ((cs.drop f3.offset).take (P.cellsOf f3.type)) = some y3 ∧ DataW.trod enc P w base sp held n f4.type ((cs.drop f4.offset).take (P.cellsOf f4.type)) = some y4 ∧ DataW.trod enc P w base sp held n f5.type ((cs.drop f5.offset).take (P.cellsOf f5.type)) = some y5 ∧ DataW.trod enc P w base sp held n f6.type ((cs.drop f6.offset).take (P.cellsOf f6.type)) = some y6 ∧ DataW.trod enc P w base sp held n f7.type ((cs.drop f7.offset).take (P.cellsOf f7.type)) = some y7 := by
  obtain ⟨xs, n, _, rfl, hl, hlen, hf⟩ := DataW.trod_struct ht h
  match xs, hlen with
  | [y0, y1, y2, y3, y4, y5, y6, y7], _ => exact ⟨y0, y1, y2, y3, y4, y5, y6, y7, n, hl, by simpa using hf 0 f0 rfl, by simpa using hf 1 f1 rfl, by simpa using hf 2 f2 rfl, by simpa using hf 3 f3 rfl, by simpa using hf 4 f4 rfl, by simpa using hf 5 f5 rfl, by simpa using hf 6 f6 rfl, by simpa using hf 7 f7 rfl⟩
end
section
variable {H : Type} {enc : TypeId × Value → H} {w : World} {base : Nat} {sp : Nat → Bool} {held : Bool}
theorem int_open {fuel : Nat} {cs : List Value} {x : DataW H × List MemPlace} (h : DataW.trod enc Tryz.prog w base sp held fuel 3 cs = some x) : ∃ a, cs = [.int .i64 a] ∧ (Lit.int .i64 a).wf = true := by
  obtain ⟨a, e, _, hw⟩ := DataW.trod_int Tryz.underlying3 h
  exact ⟨a, e, hw⟩
set_option maxRecDepth 100000 in
theorem vec_open {fuel : Nat} {cs : List Value} {x : DataW H × List MemPlace} (h : DataW.trod enc Tryz.prog w base sp held fuel 24 cs = some x) : ∃ a b c, cs = [.int .i64 a, .int .i64 b, .int .i64 c] := by
  obtain ⟨y0, y1, y2, n, rfl, hl, h0, h1, h2⟩ := trod_struct3 Tryz.underlying24 h
  rw [cellsVec] at hl
  match cs, hl with
  | [c0, c1, c2], _ =>
    simp only [cellsInt] at h0 h1 h2
    obtain ⟨a, e0, _⟩ := int_open h0
    obtain ⟨b, e1, _⟩ := int_open h1
    obtain ⟨c, e2, _⟩ := int_open h2
    simp at e0 e1 e2
    subst e0 e1 e2
    exact ⟨a, b, c, rfl⟩
set_option maxRecDepth 100000 in
theorem shape_open {fuel : Nat} {cs : List Value} {x : DataW H × List MemPlace} (h : DataW.trod enc Tryz.prog w base sp held fuel 35 cs = some x) : ∃ k a b c, cs = [.int .i64 k, .int .i64 a, .int .i64 b, .int .i64 c] := by
  obtain ⟨y0, y1, n, rfl, hl, h0, h1⟩ := trod_struct2 Tryz.underlying35 h
  rw [cellsShape] at hl
  match cs, hl with
  | [c0, c1, c2, c3], _ =>
    simp only [cellsInt, cellsVec] at h0 h1
    obtain ⟨k, e0, _⟩ := int_open h0
    obtain ⟨a, b, c, e1⟩ := vec_open h1
    simp at e0 e1
    obtain ⟨rfl, rfl, rfl⟩ := e1
    subst e0
    exact ⟨k, a, b, c, rfl⟩
set_option maxRecDepth 100000 in
theorem body_open {fuel : Nat} {cs : List Value} {x : DataW H × List MemPlace} (h : DataW.trod enc Tryz.prog w base sp held fuel 37 cs = some x) : ∃ q : Bd, In64S q.id ∧ cs = bdL q := by
  obtain ⟨y0, y1, y2, y3, y4, y5, y6, y7, n, hl, h0, h1, h2, h3, h4, h5, h6, h7⟩ := trod_struct8 Tryz.underlying37 h
  rw [cellsBody] at hl
  match cs, hl with
  | [c0, c1, c2, c3, c4, c5, c6, c7, c8, c9, c10, c11, c12, c13, c14, c15, c16], _ =>
    simp only [cellsInt, cellsVec, cellsShape] at h0 h1 h2 h3 h4 h5 h6 h7
    obtain ⟨a0, e0, hw⟩ := int_open h0
    obtain ⟨a1, e1, _⟩ := int_open h1
    obtain ⟨s0, s1, s2, s3, e2⟩ := shape_open h2
    obtain ⟨p0, p1, p2, e3⟩ := vec_open h3
    obtain ⟨v0, v1, v2, e4⟩ := vec_open h4
    obtain ⟨u0, u1, u2, e5⟩ := vec_open h5
    obtain ⟨a6, e6, _⟩ := int_open h6
    obtain ⟨a7, e7, _⟩ := int_open h7
    simp at e0 e1 e2 e3 e4 e5 e6 e7
    obtain ⟨rfl, rfl, rfl, rfl⟩ := e2
    obtain ⟨rfl, rfl, rfl⟩ := e3
    obtain ⟨rfl, rfl, rfl⟩ := e4
    obtain ⟨rfl, rfl, rfl⟩ := e5
    subst e0 e1 e6 e7
    exact ⟨⟨a0, a1, s0, s1, s2, s3, p0, p1, p2, v0, v1, v2, u0, u1, u2, a6, a7⟩, hw, rfl⟩
set_option maxRecDepth 100000 in
/-- The bodies of a slice that came in. -/
theorem bodies_open {fuel : Nat} {a : Option Addr} {len cap : Nat} {x : DataW H × List MemPlace} (h : DataW.trod enc Tryz.prog w 0 (fun _ => true) true fuel 22 [.slice a len cap] = some x) : ∃ B, BodiesAt w a len B ∧ (∀ j, j < len → In64S (B j).id) ∧ (a = none → len = 0 ∧ cap = 0) := by
  rcases open_slice Tryz.underlying22 h with ⟨e, _⟩ | ⟨ad, len', cap', m, n, D, Pl, e, hb, hl, hm, hmm, _, hx⟩
  · simp at e
    obtain ⟨rfl, rfl, rfl⟩ := e
    exact ⟨fun _ => bd0, fun j hj => by omega, fun j hj => by omega, fun _ => ⟨rfl, rfl⟩⟩
  · simp at e
    obtain ⟨rfl, rfl, rfl⟩ := e
    simp only [if_true] at hmm
    subst hmm
    have key : ∀ j, ∃ z : Bd, j < len → In64S z.id ∧ ∃ b o, some ad = some ⟨b, o, none⟩ ∧ ∀ k, k < 17 → w.cell? ⟨b, o + j * 17 + k, none⟩ = some (bc z k) := by
      intro j
      by_cases hj : j < len
      · obtain ⟨cs, hc, ht⟩ := hx j (by omega)
        rw [cellsBody] at hc
        obtain ⟨q, hi, rfl⟩ := body_open ht
        obtain ⟨_, _, hcell⟩ := World.cells?_some hc
        refine ⟨q, fun _ => ⟨hi, ?_⟩⟩
        obtain ⟨b, o, spot⟩ := ad
        cases spot with
        | some s =>
          exfalso
          obtain ⟨cs0, hc0, ht0⟩ := hx 0 (by omega)
          rw [cellsBody] at hc0
          obtain ⟨q', _, rfl⟩ := body_open ht0
          obtain ⟨_, _, hcell0⟩ := World.cells?_some hc0
          have k := hcell0 0 (by omega)
          simp only [Addr.add, Nat.zero_mul, if_true, World.cell?, Option.isSome_some, bdL, zqi] at k
          split at k <;> cases k
        | none =>
          refine ⟨b, o, rfl, fun k hk => ?_⟩
          have k0 := hcell k hk
          rw [add_plain, add_plain, bdL_at q k hk] at k0
          exact k0
      · exact ⟨bd0, fun h => absurd h hj⟩
    exact ⟨fun j => (key j).choose, fun j hj => ((key j).choose_spec hj).2, fun j hj => ((key j).choose_spec hj).1, fun e => by cases e⟩
end
end Go.Proofs.YtbfkloclmlnahabGreat.SvF
