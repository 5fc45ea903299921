/- (solve.meeting).speed and give, (solve.Law).Right: whatever they are. -/
import Derived.Test.YtpegjobehdihbaaSv9
namespace Go.Proofs.Ytpegjobehdihbaa
open Go.ChangeShapes Go.WideShapes Go.ChangeAt Go.RowKit
set_option linter.unusedVariables false
set_option linter.unusedSimpArgs false

def lessV (q : Bd) (a b c m : Int) : Bd := spX q (sub q.vx (mul a m)) (sub q.vy (mul b m)) (sub q.vz (mul c m))
def moreV (q : Bd) (a b c m : Int) : Bd := spX q (add q.vx (mul a m)) (add q.vy (mul b m)) (add q.vz (mul c m))
/-- Two give each other j by a way. -/
def giveX (B : Nat → Bd) (i k : Nat) (x y a b c j : Int) : Nat → Bd :=
  let B1 := upd B i (lessV (B i) a b c (mul j x))
  upd B1 k (moreV (B1 k) a b c (mul j y))
def SpAt (w' : World) (g i k : Nat) (p q : Bd) : Prop := w'.cell? ⟨g, i * 17 + 9, none⟩ = some (.int .i64 (p.vx)) ∧ w'.cell? ⟨g, i * 17 + 10, none⟩ = some (.int .i64 (p.vy)) ∧ w'.cell? ⟨g, i * 17 + 11, none⟩ = some (.int .i64 (p.vz)) ∧ w'.cell? ⟨g, k * 17 + 9, none⟩ = some (.int .i64 (q.vx)) ∧ w'.cell? ⟨g, k * 17 + 10, none⟩ = some (.int .i64 (q.vy)) ∧ w'.cell? ⟨g, k * 17 + 11, none⟩ = some (.int .i64 (q.vz))
theorem VecAt.free {w : World} {b : Nat} {x y z : Int} (h : VecAt w b x y z) (j : Nat) : w.frozen? ⟨b, j, none⟩ = false := by
  unfold VecAt at h; simp [World.frozen?, h]
def shareX (b : Int) : Bool := decide (0 ≤ b ∧ b ≤ 65536)
theorem share_calls (b : Int) (w : World) : Calls Try.prog 18 #[.int .i64 b] w fun e w' => e = .returned (.bool (shareX b)) ∧ w' = w := by
  by_cases h1 : 0 ≤ b
  · by_cases h2 : b ≤ 65536
    · have HR : Hid (shareX b = true) := by show shareX b = true; simp [shareX, h1, h2]
      go_enter Try.func18, Try.ntmps18
      go_wp2_with fail
      go_ret
      exact ⟨by rw [HR.out]; rfl, rfl⟩
    · have HR : Hid (shareX b = false) := by show shareX b = false; simp [shareX, h1]; omega
      go_enter Try.func18, Try.ntmps18
      go_wp2_with fail
      go_ret
      exact ⟨by rw [HR.out]; rfl, rfl⟩
  · have HR : Hid (shareX b = false) := by show shareX b = false; simp [shareX]; omega
    go_enter Try.func18, Try.ntmps18
    go_wp2_with fail
    go_ret
    exact ⟨by rw [HR.out]; rfl, rfl⟩
def rightX (b r k : Int) : Bool := shareX b && shareX r && decide (1 ≤ k) && decide (k ≤ 20)
theorem lawRight_calls (b r k : Int) (w : World) : Calls Try.prog 12 #[.agg #[.int .i64 b, .int .i64 r, .int .i64 k]] w fun e w' => e = .returned (.bool (rightX b r k)) ∧ Kept w w' := by
  have HR : Hid (rightX b r k = (shareX b && shareX r && decide (1 ≤ k) && decide (k ≤ 20))) := rfl
  go_enter Try.func12, Try.ntmps12
  go_wp2_with fail
  refine (share_calls b _).mono ?_
  rintro e w1 ⟨rfl, hw⟩
  subst hw
  generalize shareX b = sb at HR
  cases sb with
  | false =>
    go_wp2_with fail
    go_ret
    exact ⟨by rw [HR.out]; rfl, (Kept.refl _).alloc _ _⟩
  | true =>
    go_wp2_with fail
    refine (share_calls r _).mono ?_
    rintro e w1 ⟨rfl, hw⟩
    subst hw
    generalize shareX r = sr at HR
    cases sr with
    | false =>
      go_wp2_with fail
      go_ret
      exact ⟨by rw [HR.out]; rfl, (Kept.refl _).alloc _ _⟩
    | true =>
      by_cases h1 : 1 ≤ k
      · by_cases h2 : k ≤ 20
        · have HQ : Hid (rightX b r k = true) := by show _ = _; rw [HR.out]; simp [h1, h2]
          go_wp2_with fail
          go_ret
          exact ⟨by rw [HQ.out]; first | rfl | simp [h2] | simp [h1], (Kept.refl _).alloc _ _⟩
        · have HQ : Hid (rightX b r k = false) := by show _ = _; rw [HR.out]; simp [h1, h2]
          go_wp2_with fail
          go_ret
          exact ⟨by rw [HQ.out]; first | rfl | simp [h2] | simp [h1], (Kept.refl _).alloc _ _⟩
      · have HQ : Hid (rightX b r k = false) := by show _ = _; rw [HR.out]; simp [h1]
        go_wp2_with fail
        go_ret
        exact ⟨by rw [HQ.out]; first | rfl | simp [h1], (Kept.refl _).alloc _ _⟩
set_option maxRecDepth 100000 in
set_option maxHeartbeats 4000000 in
theorem give_calls (g n i k : Nat) (x y al : Int) (v : V3) (dp a b c j : Int) (B : Nat → Bd) (w : World) (h : OwnB w g n B) (hi : i < n) (hk : k < n) :
    Calls Try.prog 26 #[.agg #[.pointer (some ⟨g, i * 17, none⟩), .pointer (some ⟨g, k * 17, none⟩), .int .i64 x, .int .i64 y, .int .i64 al, .int .i64 (v.x), .int .i64 (v.y), .int .i64 (v.z), .int .i64 dp], .agg #[.int .i64 a, .int .i64 b, .int .i64 c], .int .i64 j] w fun e w' => e = .returned (.tuple #[]) ∧ OwnB w' g n (giveX B i k x y a b c j) ∧ Only [g] w w' := by
  have HO : Hid (OwnB w g n B ∧ i < n ∧ k < n) := ⟨h, hi, hk⟩
  clear h hi hk
  go_enter Try.func26, Try.ntmps26
  go_wp2_with fail
  have H0 : Hid (Only [] w ((w.alloc (.cells #[.pointer (some ⟨g, i * 17, none⟩), .pointer (some ⟨g, k * 17, none⟩), .int .i64 x, .int .i64 y, .int .i64 al, .int .i64 (v.x), .int .i64 (v.y), .int .i64 (v.z), .int .i64 dp] 49)).alloc (.cells #[.int .i64 a, .int .i64 b, .int .i64 c] 26)) ∧ MtAt ((w.alloc (.cells #[.pointer (some ⟨g, i * 17, none⟩), .pointer (some ⟨g, k * 17, none⟩), .int .i64 x, .int .i64 y, .int .i64 al, .int .i64 (v.x), .int .i64 (v.y), .int .i64 (v.z), .int .i64 dp] 49)).alloc (.cells #[.int .i64 a, .int .i64 b, .int .i64 c] 26)) w.heap.size g i k x y al v dp) := ⟨((Only.refl [] w).alloc _).alloc _, MtAt.only (MapKept.heap_alloc w _).1 ((Only.refl [] _).alloc _) (by simp)⟩
  refine (split_calls _ _ _ _ _ _ _ _ _ a b c j _).mono ?_
  rintro e w4 ⟨rfl, k4⟩
  have H1 : Hid (Only [] w w4 ∧ MtAt w4 w.heap.size g i k x y al v dp) := ⟨H0.out.1.trans (Only.of_kept k4), H0.out.2.only (Only.of_kept (D := []) k4) (by simp)⟩
  clear k4 H0
  revert H1
  generalize hkx : w.heap.size = kx
  intro H1
  have HX : Hid (w.heap.size = kx) := hkx
  clear hkx
  go_upto_region 2 with fail
  have H5 : Hid (Only [] w ((w4.alloc (.cells #[.int .i64 (mul a (mul j x)), .int .i64 (mul b (mul j x)), .int .i64 (mul c (mul j x))] 26)).alloc (.cells #[.int .i64 (mul a (mul j y)), .int .i64 (mul b (mul j y)), .int .i64 (mul c (mul j y))] 26)) ∧ MtAt ((w4.alloc (.cells #[.int .i64 (mul a (mul j x)), .int .i64 (mul b (mul j x)), .int .i64 (mul c (mul j x))] 26)).alloc (.cells #[.int .i64 (mul a (mul j y)), .int .i64 (mul b (mul j y)), .int .i64 (mul c (mul j y))] 26)) kx g i k x y al v dp ∧ VecAt ((w4.alloc (.cells #[.int .i64 (mul a (mul j x)), .int .i64 (mul b (mul j x)), .int .i64 (mul c (mul j x))] 26)).alloc (.cells #[.int .i64 (mul a (mul j y)), .int .i64 (mul b (mul j y)), .int .i64 (mul c (mul j y))] 26)) w4.heap.size (mul a (mul j x)) (mul b (mul j x)) (mul c (mul j x)) ∧ VecAt ((w4.alloc (.cells #[.int .i64 (mul a (mul j x)), .int .i64 (mul b (mul j x)), .int .i64 (mul c (mul j x))] 26)).alloc (.cells #[.int .i64 (mul a (mul j y)), .int .i64 (mul b (mul j y)), .int .i64 (mul c (mul j y))] 26)) (w4.heap.size + 1) (mul a (mul j y)) (mul b (mul j y)) (mul c (mul j y)) ∧ w.heap.size ≤ w4.heap.size ∧ w.heap.size ≤ w4.heap.size + 1) := by
    have hs : (w4.alloc (.cells #[.int .i64 (mul a (mul j x)), .int .i64 (mul b (mul j x)), .int .i64 (mul c (mul j x))] 26)).heap.size = w4.heap.size + 1 := by simp
    have hb := (MapKept.heap_alloc (w4.alloc (.cells #[.int .i64 (mul a (mul j x)), .int .i64 (mul b (mul j x)), .int .i64 (mul c (mul j x))] 26)) (.cells #[.int .i64 (mul a (mul j y)), .int .i64 (mul b (mul j y)), .int .i64 (mul c (mul j y))] 26)).1
    rw [hs] at hb
    exact ⟨(H1.out.1.alloc _).alloc _, H1.out.2.only (((Only.refl [] w4).alloc _).alloc _) (by simp), VecAt.only (MapKept.heap_alloc w4 _).1 ((Only.refl [] _).alloc _) (by simp), hb, H1.out.1.size, Nat.le_trans H1.out.1.size (Nat.le_succ _)⟩
  clear H1
  revert H5
  generalize w4.heap.size + 1 = rb
  generalize w4.heap.size = ra
  generalize World.alloc (World.alloc w4 _) _ = w5
  intro H5
  have HNE : Hid (ra ≠ g ∧ rb ≠ g ∧ VecAt w5 rb (mul a (mul j y)) (mul b (mul j y)) (mul c (mul j y))) := by
    have hg := HO.out.1.lt
    have h2 := H5.out.2.2.2.2
    exact ⟨by omega, by omega, H5.out.2.2.2.1⟩
  have HB6 : Hid (OwnB w5 g n B ∧ MtAt w5 kx g i k x y al v dp ∧ kx ≠ g ∧ VecAt w5 ra (mul a (mul j x)) (mul b (mul j x)) (mul c (mul j x))) := by
    have hg := HO.out.1.lt
    have hx := HX.out
    exact ⟨HO.out.1.only H5.out.1 (by simp), H5.out.2.1, by omega, H5.out.2.2.1⟩
  obtain ⟨bi, hxi⟩ : ∃ bi, bi = B i := ⟨_, rfl⟩
  have HXI : Hid (bi = B i) := hxi
  clear hxi
  have HK : Hid (∀ w', Only [g] w5 w' → Only [g] w5 w' ∧ w'.cell? ⟨kx, 0, none⟩ = some (.pointer (some ⟨g, i * 17, none⟩)) ∧ w'.cell? ⟨ra, 0, none⟩ = some (.int .i64 (mul a (mul j x))) ∧ w'.cell? ⟨ra, 1, none⟩ = some (.int .i64 (mul b (mul j x))) ∧ w'.cell? ⟨ra, 2, none⟩ = some (.int .i64 (mul c (mul j x)))) := fun w' o =>
    ⟨o, cell_only o (HB6.out.2.1.off 0) (by simp only [List.mem_singleton]; exact HB6.out.2.2.1), cell_only o (HB6.out.2.2.2.off 0) (by simp only [List.mem_singleton]; exact HNE.out.1), cell_only o (HB6.out.2.2.2.off 1) (by simp only [List.mem_singleton]; exact HNE.out.1), cell_only o (HB6.out.2.2.2.off 2) (by simp only [List.mem_singleton]; exact HNE.out.1)⟩
  have c6 := HB6.out.1.cell HO.out.2.1 (show 9 < 17 by omega); have c7 := HB6.out.1.cell HO.out.2.1 (show 10 < 17 by omega); have c8 := HB6.out.1.cell HO.out.2.1 (show 11 < 17 by omega)
  rw [← HXI.out] at c6 c7 c8
  simp only [bc] at c6 c7 c8
  refine wp_region_held_drew (S := (fun w' => Only [g] w5 w' ∧ w'.cell? ⟨kx, 0, none⟩ = some (.pointer (some ⟨g, i * 17, none⟩)) ∧ w'.cell? ⟨ra, 0, none⟩ = some (.int .i64 (mul a (mul j x))) ∧ w'.cell? ⟨ra, 1, none⟩ = some (.int .i64 (mul b (mul j x))) ∧ w'.cell? ⟨ra, 2, none⟩ = some (.int .i64 (mul c (mul j x))))) (by kernel_rfl) ?_ (fun hHeld1 => ?_)
  · (try dsimp only); exact HK.out _ (Only.refl _ _).drew
  refine tkW 0 rfl ?_; refine tkW 1 rfl ?_; refine tkW 2 rfl ?_; refine tkW 3 rfl ?_
  try simp only [Act.put, List.setIfInBounds_toArray, List.set_cons_zero, List.set_cons_succ, List.getElem_toArray, List.getElem_cons_succ, List.getElem_cons_zero]
  refine tkW 4 rfl ?_; refine tkW 5 rfl ?_; refine tkW 7 rfl ?_
  try simp only [Act.put, List.setIfInBounds_toArray, List.set_cons_zero, List.set_cons_succ, List.getElem_toArray, List.getElem_cons_succ, List.getElem_cons_zero]
  refine wpAnyH_ready (rs := [6]) (by kernel_rfl) (by simp) ?_
  refine AllReadyH.cons rfl (fun K hK => ?_) AllReadyH.nil
  first | (with_reducible refine iteYes ?hcx ?htx; case hcx => kernel_rfl) | rw [if_pos (by rfl)]
  simp only [List.getElem_toArray, List.getElem_cons_succ, List.getElem_cons_zero]
  go_simp
  skip
  try go_wp2_with fail
  refine hK.out _ _ ?_ (fun hHeld2 => ?_)
  · (try dsimp only); exact HK.out _ (Only.refl _ _).drew
  clear hK K hHeld1
  try simp only [Act.put, List.setIfInBounds_toArray, List.set_cons_zero, List.set_cons_succ, List.getElem_toArray, List.getElem_cons_succ, List.getElem_cons_zero]
  refine wpAnyH_ready (rs := [8]) (by kernel_rfl) (by simp) ?_
  refine AllReadyH.cons rfl (fun K hK => ?_) AllReadyH.nil
  first | (with_reducible refine iteYes ?hcx ?htx; case hcx => kernel_rfl) | rw [if_pos (by rfl)]
  simp only [List.getElem_toArray, List.getElem_cons_succ, List.getElem_cons_zero]
  go_simp
  (go_at_call 27; refine (minus_calls _ _ _ _ _ _ _).mono ?_; rintro e w7 ⟨rfl, k6⟩)
  try go_wp2_with fail
  refine hK.out _ _ ?_ (fun hHeld3 => ?_)
  · (try dsimp only); exact HK.out _ (Only.of_kept ((Kept.refl w5).drew.trans k6))
  clear hK K hHeld2
  try simp only [Act.put, List.setIfInBounds_toArray, List.set_cons_zero, List.set_cons_succ, List.getElem_toArray, List.getElem_cons_succ, List.getElem_cons_zero]
  have K7 : Hid (Kept w5 w7) := (Kept.refl w5).drew.trans k6
  have e6 := kept_cell K7.out c6; have e7 := kept_cell K7.out c7; have e8 := kept_cell K7.out c8
  have f6 := kept_frozen K7.out (HB6.out.1.free (i * 17 + 9)); have f7 := kept_frozen K7.out (HB6.out.1.free (i * 17 + 10)); have f8 := kept_frozen K7.out (HB6.out.1.free (i * 17 + 11))
  clear k6 c6 c7 c8
  refine tkW 9 rfl ?_; refine tkW 10 rfl ?_
  try simp only [Act.put, List.setIfInBounds_toArray, List.set_cons_zero, List.set_cons_succ, List.getElem_toArray, List.getElem_cons_succ, List.getElem_cons_zero]
  refine wpAnyH_ready (rs := [11]) (by kernel_rfl) (by simp) ?_
  refine AllReadyH.cons rfl (fun K hK => ?_) AllReadyH.nil
  first | (with_reducible refine iteYes ?hcx ?htx; case hcx => kernel_rfl) | rw [if_pos (by rfl)]
  simp only [List.getElem_toArray, List.getElem_cons_succ, List.getElem_cons_zero]
  go_simp
  refine hK.out _ _ ?_ (fun hHeld4 => ?_)
  · (try dsimp only); exact HK.out _ ((((Only.of_kept K7.out).setCell (p := ⟨g, i * 17 + 9, none⟩) (Or.inl (by simp)) _).setCell (p := ⟨g, i * 17 + 10, none⟩) (Or.inl (by simp)) _).setCell (p := ⟨g, i * 17 + 11, none⟩) (Or.inl (by simp)) _)
  clear hK K
  try simp only [Act.put, List.setIfInBounds_toArray, List.set_cons_zero, List.set_cons_succ, List.getElem_toArray, List.getElem_cons_succ, List.getElem_cons_zero]
  refine wpAnyH_done (by kernel_rfl) ?_ _
  have HB8 : Hid (OwnB (((w7.setCell ⟨g, i * 17 + 9, none⟩ (.int .i64 (sub bi.vx (mul a (mul j x))))).setCell ⟨g, i * 17 + 10, none⟩ (.int .i64 (sub bi.vy (mul b (mul j x))))).setCell ⟨g, i * 17 + 11, none⟩ (.int .i64 (sub bi.vz (mul c (mul j x))))) g n (upd (B) i (lessV (B i) a b c (mul j x))) ∧ Only [g] w5 (((w7.setCell ⟨g, i * 17 + 9, none⟩ (.int .i64 (sub bi.vx (mul a (mul j x))))).setCell ⟨g, i * 17 + 10, none⟩ (.int .i64 (sub bi.vy (mul b (mul j x))))).setCell ⟨g, i * 17 + 11, none⟩ (.int .i64 (sub bi.vz (mul c (mul j x)))))) := by
    refine ⟨?_, (((Only.of_kept K7.out).setCell (p := ⟨g, i * 17 + 9, none⟩) (Or.inl (by simp)) _).setCell (p := ⟨g, i * 17 + 10, none⟩) (Or.inl (by simp)) _).setCell (p := ⟨g, i * 17 + 11, none⟩) (Or.inl (by simp)) _⟩
    have h1 := (HB6.out.1.only (Only.of_kept (D := []) K7.out) (by simp)).putSp HO.out.2.1 (sub bi.vx (mul a (mul j x))) (sub bi.vy (mul b (mul j x))) (sub bi.vz (mul c (mul j x)))
    rw [HXI.out] at h1 ⊢
    exact h1
  clear hHeld4 HK e6 e7 e8 f6 f7 f8 K7
  revert HB8
  generalize World.setCell (World.setCell (World.setCell w7 _ _) _ _) _ _ = w8
  intro HB8
  obtain ⟨B1, hB1⟩ : ∃ B1, B1 = upd B i (lessV (B i) a b c (mul j x)) := ⟨_, rfl⟩
  rw [← hB1] at HB8
  have HB1 : Hid (B1 = upd B i (lessV (B i) a b c (mul j x))) := hB1
  clear hB1
  have HC8 : Hid (OwnB w8 g n B1 ∧ MtAt w8 kx g i k x y al v dp ∧ kx ≠ g ∧ VecAt w8 rb (mul a (mul j y)) (mul b (mul j y)) (mul c (mul j y))) := ⟨HB8.out.1, HB6.out.2.1.only HB8.out.2 (by simp only [List.mem_singleton]; exact HB6.out.2.2.1), HB6.out.2.2.1, HNE.out.2.2.only HB8.out.2 (by simp only [List.mem_singleton]; exact HNE.out.2.1)⟩
  go_upto_region 3 with fail
  obtain ⟨bk, hxk⟩ : ∃ bk, bk = B1 k := ⟨_, rfl⟩
  have HXK : Hid (bk = B1 k) := hxk
  clear hxk
  have HK : Hid (∀ w', Only [g] w8 w' → Only [g] w8 w' ∧ w'.cell? ⟨kx, 1, none⟩ = some (.pointer (some ⟨g, k * 17, none⟩)) ∧ w'.cell? ⟨rb, 0, none⟩ = some (.int .i64 (mul a (mul j y))) ∧ w'.cell? ⟨rb, 1, none⟩ = some (.int .i64 (mul b (mul j y))) ∧ w'.cell? ⟨rb, 2, none⟩ = some (.int .i64 (mul c (mul j y)))) := fun w' o =>
    ⟨o, cell_only o (HC8.out.2.1.off 1) (by simp only [List.mem_singleton]; exact HC8.out.2.2.1), cell_only o (HC8.out.2.2.2.off 0) (by simp only [List.mem_singleton]; exact HNE.out.2.1), cell_only o (HC8.out.2.2.2.off 1) (by simp only [List.mem_singleton]; exact HNE.out.2.1), cell_only o (HC8.out.2.2.2.off 2) (by simp only [List.mem_singleton]; exact HNE.out.2.1)⟩
  have c6 := HC8.out.1.cell HO.out.2.2 (show 9 < 17 by omega); have c7 := HC8.out.1.cell HO.out.2.2 (show 10 < 17 by omega); have c8 := HC8.out.1.cell HO.out.2.2 (show 11 < 17 by omega)
  rw [← HXK.out] at c6 c7 c8
  simp only [bc] at c6 c7 c8
  refine wp_region_held_drew (S := (fun w' => Only [g] w8 w' ∧ w'.cell? ⟨kx, 1, none⟩ = some (.pointer (some ⟨g, k * 17, none⟩)) ∧ w'.cell? ⟨rb, 0, none⟩ = some (.int .i64 (mul a (mul j y))) ∧ w'.cell? ⟨rb, 1, none⟩ = some (.int .i64 (mul b (mul j y))) ∧ w'.cell? ⟨rb, 2, none⟩ = some (.int .i64 (mul c (mul j y))))) (by kernel_rfl) ?_ (fun hHeld1 => ?_)
  · (try dsimp only); exact HK.out _ (Only.refl _ _).drew
  refine tkW 0 rfl ?_; refine tkW 1 rfl ?_; refine tkW 2 rfl ?_; refine tkW 3 rfl ?_
  try simp only [Act.put, List.setIfInBounds_toArray, List.set_cons_zero, List.set_cons_succ, List.getElem_toArray, List.getElem_cons_succ, List.getElem_cons_zero]
  refine tkW 4 rfl ?_; refine tkW 5 rfl ?_; refine tkW 7 rfl ?_
  try simp only [Act.put, List.setIfInBounds_toArray, List.set_cons_zero, List.set_cons_succ, List.getElem_toArray, List.getElem_cons_succ, List.getElem_cons_zero]
  refine wpAnyH_ready (rs := [6]) (by kernel_rfl) (by simp) ?_
  refine AllReadyH.cons rfl (fun K hK => ?_) AllReadyH.nil
  first | (with_reducible refine iteYes ?hcx ?htx; case hcx => kernel_rfl) | rw [if_pos (by rfl)]
  simp only [List.getElem_toArray, List.getElem_cons_succ, List.getElem_cons_zero]
  go_simp
  skip
  try go_wp2_with fail
  refine hK.out _ _ ?_ (fun hHeld2 => ?_)
  · (try dsimp only); exact HK.out _ (Only.refl _ _).drew
  clear hK K hHeld1
  try simp only [Act.put, List.setIfInBounds_toArray, List.set_cons_zero, List.set_cons_succ, List.getElem_toArray, List.getElem_cons_succ, List.getElem_cons_zero]
  refine wpAnyH_ready (rs := [8]) (by kernel_rfl) (by simp) ?_
  refine AllReadyH.cons rfl (fun K hK => ?_) AllReadyH.nil
  first | (with_reducible refine iteYes ?hcx ?htx; case hcx => kernel_rfl) | rw [if_pos (by rfl)]
  simp only [List.getElem_toArray, List.getElem_cons_succ, List.getElem_cons_zero]
  go_simp
  (go_at_call 33; refine (plus_calls _ _ _ _ _ _ _).mono ?_; rintro e w10 ⟨rfl, k6⟩)
  try go_wp2_with fail
  refine hK.out _ _ ?_ (fun hHeld3 => ?_)
  · (try dsimp only); exact HK.out _ (Only.of_kept ((Kept.refl w8).drew.trans k6))
  clear hK K hHeld2
  try simp only [Act.put, List.setIfInBounds_toArray, List.set_cons_zero, List.set_cons_succ, List.getElem_toArray, List.getElem_cons_succ, List.getElem_cons_zero]
  have K7 : Hid (Kept w8 w10) := (Kept.refl w8).drew.trans k6
  have e6 := kept_cell K7.out c6; have e7 := kept_cell K7.out c7; have e8 := kept_cell K7.out c8
  have f6 := kept_frozen K7.out (HC8.out.1.free (k * 17 + 9)); have f7 := kept_frozen K7.out (HC8.out.1.free (k * 17 + 10)); have f8 := kept_frozen K7.out (HC8.out.1.free (k * 17 + 11))
  clear k6 c6 c7 c8
  refine tkW 9 rfl ?_; refine tkW 10 rfl ?_
  try simp only [Act.put, List.setIfInBounds_toArray, List.set_cons_zero, List.set_cons_succ, List.getElem_toArray, List.getElem_cons_succ, List.getElem_cons_zero]
  refine wpAnyH_ready (rs := [11]) (by kernel_rfl) (by simp) ?_
  refine AllReadyH.cons rfl (fun K hK => ?_) AllReadyH.nil
  first | (with_reducible refine iteYes ?hcx ?htx; case hcx => kernel_rfl) | rw [if_pos (by rfl)]
  simp only [List.getElem_toArray, List.getElem_cons_succ, List.getElem_cons_zero]
  go_simp
  refine hK.out _ _ ?_ (fun hHeld4 => ?_)
  · (try dsimp only); exact HK.out _ ((((Only.of_kept K7.out).setCell (p := ⟨g, k * 17 + 9, none⟩) (Or.inl (by simp)) _).setCell (p := ⟨g, k * 17 + 10, none⟩) (Or.inl (by simp)) _).setCell (p := ⟨g, k * 17 + 11, none⟩) (Or.inl (by simp)) _)
  clear hK K
  try simp only [Act.put, List.setIfInBounds_toArray, List.set_cons_zero, List.set_cons_succ, List.getElem_toArray, List.getElem_cons_succ, List.getElem_cons_zero]
  refine wpAnyH_done (by kernel_rfl) ?_ _
  have HB9 : Hid (OwnB (((w10.setCell ⟨g, k * 17 + 9, none⟩ (.int .i64 (add bk.vx (mul a (mul j y))))).setCell ⟨g, k * 17 + 10, none⟩ (.int .i64 (add bk.vy (mul b (mul j y))))).setCell ⟨g, k * 17 + 11, none⟩ (.int .i64 (add bk.vz (mul c (mul j y))))) g n (upd (B1) k (moreV (B1 k) a b c (mul j y))) ∧ Only [g] w8 (((w10.setCell ⟨g, k * 17 + 9, none⟩ (.int .i64 (add bk.vx (mul a (mul j y))))).setCell ⟨g, k * 17 + 10, none⟩ (.int .i64 (add bk.vy (mul b (mul j y))))).setCell ⟨g, k * 17 + 11, none⟩ (.int .i64 (add bk.vz (mul c (mul j y)))))) := by
    refine ⟨?_, (((Only.of_kept K7.out).setCell (p := ⟨g, k * 17 + 9, none⟩) (Or.inl (by simp)) _).setCell (p := ⟨g, k * 17 + 10, none⟩) (Or.inl (by simp)) _).setCell (p := ⟨g, k * 17 + 11, none⟩) (Or.inl (by simp)) _⟩
    have h1 := (HC8.out.1.only (Only.of_kept (D := []) K7.out) (by simp)).putSp HO.out.2.2 (add bk.vx (mul a (mul j y))) (add bk.vy (mul b (mul j y))) (add bk.vz (mul c (mul j y)))
    rw [HXK.out] at h1 ⊢
    exact h1
  clear hHeld4 HK e6 e7 e8 f6 f7 f8 K7
  go_wp2_with fail
  refine bodyPost_end (results_none rfl _ _ _) rfl ?_
  refine ⟨rfl, ?_, ?_⟩
  · have e1 : giveX B i k x y a b c j = upd B1 k (moreV (B1 k) a b c (mul j y)) := by rw [HB1.out]; rfl
    rw [e1]; exact HB9.out.1
  · exact (((Only.refl [g] w).trans (H5.out.1.mono (by simp))).trans HB8.out.2).trans HB9.out.2
set_option maxRecDepth 100000 in
set_option maxHeartbeats 4000000 in
theorem speed_calls (g n i k : Nat) (x y al : Int) (v : V3) (dp : Int) (B : Nat → Bd) (p q : Bd) (w : World) (h : OwnB w g n B) (hi : i < n) (hk : k < n) (hp : p = B i) (hq : q = B k) :
    Calls Try.prog 23 #[.agg #[.pointer (some ⟨g, i * 17, none⟩), .pointer (some ⟨g, k * 17, none⟩), .int .i64 x, .int .i64 y, .int .i64 al, .int .i64 (v.x), .int .i64 (v.y), .int .i64 (v.z), .int .i64 dp]] w fun e w' => e = .returned (.agg #[.int .i64 (sub q.vx p.vx), .int .i64 (sub q.vy p.vy), .int .i64 (sub q.vz p.vz)]) ∧ Kept w w' := by
  have c0 := h.cell hi (show 9 < 17 by omega); have c1 := h.cell hi (show 10 < 17 by omega); have c2 := h.cell hi (show 11 < 17 by omega)
  have d0 := h.cell hk (show 9 < 17 by omega); have d1 := h.cell hk (show 10 < 17 by omega); have d2 := h.cell hk (show 11 < 17 by omega)
  rw [← hp] at c0 c1 c2
  rw [← hq] at d0 d1 d2
  have HC : Hid (SpAt w g i k p q) := ⟨c0, c1, c2, d0, d1, d2⟩
  have HG : Hid (g < w.heap.size) := h.lt
  clear h hi hk hp hq c0 c1 c2 d0 d1 d2
  go_enter Try.func23, Try.ntmps23
  go_upto_region 1 with fail
  have H0 : Hid (Kept w ((w.alloc (.cells #[.pointer (some ⟨g, i * 17, none⟩), .pointer (some ⟨g, k * 17, none⟩), .int .i64 x, .int .i64 y, .int .i64 al, .int .i64 (v.x), .int .i64 (v.y), .int .i64 (v.z), .int .i64 dp] 49)).alloc (.cells #[.int .i64 0, .int .i64 0, .int .i64 0] 26)) ∧ MtAt ((w.alloc (.cells #[.pointer (some ⟨g, i * 17, none⟩), .pointer (some ⟨g, k * 17, none⟩), .int .i64 x, .int .i64 y, .int .i64 al, .int .i64 (v.x), .int .i64 (v.y), .int .i64 (v.z), .int .i64 dp] 49)).alloc (.cells #[.int .i64 0, .int .i64 0, .int .i64 0] 26)) w.heap.size g i k x y al v dp ∧ VecAt ((w.alloc (.cells #[.pointer (some ⟨g, i * 17, none⟩), .pointer (some ⟨g, k * 17, none⟩), .int .i64 x, .int .i64 y, .int .i64 al, .int .i64 (v.x), .int .i64 (v.y), .int .i64 (v.z), .int .i64 dp] 49)).alloc (.cells #[.int .i64 0, .int .i64 0, .int .i64 0] 26)) (w.heap.size + 1) 0 0 0) := by
    have hs : (w.alloc (.cells #[.pointer (some ⟨g, i * 17, none⟩), .pointer (some ⟨g, k * 17, none⟩), .int .i64 x, .int .i64 y, .int .i64 al, .int .i64 (v.x), .int .i64 (v.y), .int .i64 (v.z), .int .i64 dp] 49)).heap.size = w.heap.size + 1 := by simp
    have hb := (MapKept.heap_alloc (w.alloc (.cells #[.pointer (some ⟨g, i * 17, none⟩), .pointer (some ⟨g, k * 17, none⟩), .int .i64 x, .int .i64 y, .int .i64 al, .int .i64 (v.x), .int .i64 (v.y), .int .i64 (v.z), .int .i64 dp] 49)) (.cells #[.int .i64 0, .int .i64 0, .int .i64 0] 26)).1
    rw [hs] at hb
    exact ⟨((Kept.refl w).alloc _ _).alloc _ _, MtAt.only (MapKept.heap_alloc w _).1 ((Only.refl [] _).alloc _) (by simp), hb⟩
  have HX : Hid (w.heap.size ≤ w.heap.size + 1 ∧ w.heap.size ≠ w.heap.size + 1 ∧ g ≠ w.heap.size + 1) := by have := HG.out; exact ⟨by omega, by omega, by omega⟩
  revert H0 HX
  generalize w.heap.size + 1 = r
  generalize hkx : w.heap.size = kx
  generalize World.alloc (World.alloc w _) _ = w1
  intro H0 HX
  have HKX : Hid (w.heap.size = kx) := hkx
  clear hkx
  have HK : Hid (∀ w', Only [r] w1 w' → Only [r] w1 w' ∧ (w'.cell? ⟨kx, 0, none⟩ = some (.pointer (some ⟨g, i * 17, none⟩)) ∧ w'.cell? ⟨kx, 1, none⟩ = some (.pointer (some ⟨g, k * 17, none⟩))) ∧ w'.cell? ⟨g, i * 17 + 9, none⟩ = some (.int .i64 (p.vx)) ∧ w'.cell? ⟨g, i * 17 + 10, none⟩ = some (.int .i64 (p.vy)) ∧ w'.cell? ⟨g, i * 17 + 11, none⟩ = some (.int .i64 (p.vz)) ∧ w'.cell? ⟨g, k * 17 + 9, none⟩ = some (.int .i64 (q.vx)) ∧ w'.cell? ⟨g, k * 17 + 10, none⟩ = some (.int .i64 (q.vy)) ∧ w'.cell? ⟨g, k * 17 + 11, none⟩ = some (.int .i64 (q.vz))) := fun w' o => by
    have s := HC.out
    have hk1 := H0.out.1
    exact ⟨o, ⟨cell_only o (H0.out.2.1.off 0) (by simp only [List.mem_singleton]; exact HX.out.2.1), cell_only o (H0.out.2.1.off 1) (by simp only [List.mem_singleton]; exact HX.out.2.1)⟩,
      cell_only o (kept_cell hk1 s.1) (by simp only [List.mem_singleton]; exact HX.out.2.2), cell_only o (kept_cell hk1 s.2.1) (by simp only [List.mem_singleton]; exact HX.out.2.2), cell_only o (kept_cell hk1 s.2.2.1) (by simp only [List.mem_singleton]; exact HX.out.2.2), cell_only o (kept_cell hk1 s.2.2.2.1) (by simp only [List.mem_singleton]; exact HX.out.2.2), cell_only o (kept_cell hk1 s.2.2.2.2.1) (by simp only [List.mem_singleton]; exact HX.out.2.2), cell_only o (kept_cell hk1 s.2.2.2.2.2) (by simp only [List.mem_singleton]; exact HX.out.2.2)⟩
  refine wp_region_held_drew (S := (fun w' => Only [r] w1 w' ∧ (w'.cell? ⟨kx, 0, none⟩ = some (.pointer (some ⟨g, i * 17, none⟩)) ∧ w'.cell? ⟨kx, 1, none⟩ = some (.pointer (some ⟨g, k * 17, none⟩))) ∧ w'.cell? ⟨g, i * 17 + 9, none⟩ = some (.int .i64 (p.vx)) ∧ w'.cell? ⟨g, i * 17 + 10, none⟩ = some (.int .i64 (p.vy)) ∧ w'.cell? ⟨g, i * 17 + 11, none⟩ = some (.int .i64 (p.vz)) ∧ w'.cell? ⟨g, k * 17 + 9, none⟩ = some (.int .i64 (q.vx)) ∧ w'.cell? ⟨g, k * 17 + 10, none⟩ = some (.int .i64 (q.vy)) ∧ w'.cell? ⟨g, k * 17 + 11, none⟩ = some (.int .i64 (q.vz)))) (by kernel_rfl) ?_ (fun hHeld1 => ?_)
  · (try dsimp only); exact HK.out _ (Only.refl _ _).drew
  refine tkW 0 rfl ?_; refine tkW 1 rfl ?_; refine tkW 2 rfl ?_; refine tkW 3 rfl ?_
  try simp only [Act.put, List.setIfInBounds_toArray, List.set_cons_zero, List.set_cons_succ, List.getElem_toArray, List.getElem_cons_succ, List.getElem_cons_zero]
  refine tkW 4 rfl ?_; refine tkW 5 rfl ?_; refine tkW 6 rfl ?_; refine tkW 7 rfl ?_
  try simp only [Act.put, List.setIfInBounds_toArray, List.set_cons_zero, List.set_cons_succ, List.getElem_toArray, List.getElem_cons_succ, List.getElem_cons_zero]
  refine tkW 8 rfl ?_; refine tkW 9 rfl ?_
  try simp only [Act.put, List.setIfInBounds_toArray, List.set_cons_zero, List.set_cons_succ, List.getElem_toArray, List.getElem_cons_succ, List.getElem_cons_zero]
  refine wpAnyH_ready (rs := [10]) (by kernel_rfl) (by simp) ?_
  refine AllReadyH.cons rfl (fun K hK => ?_) AllReadyH.nil
  first | (with_reducible refine iteYes ?hcx ?htx; case hcx => kernel_rfl) | rw [if_pos (by rfl)]
  simp only [List.getElem_toArray, List.getElem_cons_succ, List.getElem_cons_zero]
  go_simp
  (go_at_call 27; refine (minus_calls _ _ _ _ _ _ _).mono ?_; rintro e w2 ⟨rfl, k2⟩)
  try go_wp2_with fail
  refine hK.out _ _ ?_ (fun hHeld2 => ?_)
  · (try dsimp only); exact HK.out _ (Only.of_kept ((Kept.refl w1).drew.trans k2))
  clear hK K hHeld1
  try simp only [Act.put, List.setIfInBounds_toArray, List.set_cons_zero, List.set_cons_succ, List.getElem_toArray, List.getElem_cons_succ, List.getElem_cons_zero]
  have K2 : Hid (Kept w1 w2) := (Kept.refl w1).drew.trans k2
  clear k2
  have e0 := kept_cell K2.out (H0.out.2.2.off 0); have e1 := kept_cell K2.out (H0.out.2.2.off 1); have e2 := kept_cell K2.out (H0.out.2.2.off 2)
  have f0 := kept_frozen K2.out (H0.out.2.2.free 0); have f1 := kept_frozen K2.out (H0.out.2.2.free 1); have f2 := kept_frozen K2.out (H0.out.2.2.free 2)
  refine wpAnyH_ready (rs := [11]) (by kernel_rfl) (by simp) ?_
  refine AllReadyH.cons rfl (fun K hK => ?_) AllReadyH.nil
  first | (with_reducible refine iteYes ?hcx ?htx; case hcx => kernel_rfl) | rw [if_pos (by rfl)]
  simp only [List.getElem_toArray, List.getElem_cons_succ, List.getElem_cons_zero]
  go_simp
  refine hK.out _ _ ?_ (fun hHeld3 => ?_)
  · (try dsimp only); exact HK.out _ ((((Only.of_kept K2.out).setCell (p := ⟨r, 0, none⟩) (Or.inl (by simp)) _).setCell (p := ⟨r, 1, none⟩) (Or.inl (by simp)) _).setCell (p := ⟨r, 2, none⟩) (Or.inl (by simp)) _)
  clear hK K
  try simp only [Act.put, List.setIfInBounds_toArray, List.set_cons_zero, List.set_cons_succ, List.getElem_toArray, List.getElem_cons_succ, List.getElem_cons_zero]
  refine wpAnyH_done (by kernel_rfl) ?_ _
  have z0 : (((w2.setCell ⟨r, 0, none⟩ (.int .i64 (sub q.vx p.vx))).setCell ⟨r, 1, none⟩ (.int .i64 (sub q.vy p.vy))).setCell ⟨r, 2, none⟩ (.int .i64 (sub q.vz p.vz))).cell? ⟨r, 0, none⟩ = some (.int .i64 (sub q.vx p.vx)) := by go_simp
  have z1 : (((w2.setCell ⟨r, 0, none⟩ (.int .i64 (sub q.vx p.vx))).setCell ⟨r, 1, none⟩ (.int .i64 (sub q.vy p.vy))).setCell ⟨r, 2, none⟩ (.int .i64 (sub q.vz p.vz))).cell? ⟨r, 1, none⟩ = some (.int .i64 (sub q.vy p.vy)) := by go_simp
  have z2 : (((w2.setCell ⟨r, 0, none⟩ (.int .i64 (sub q.vx p.vx))).setCell ⟨r, 1, none⟩ (.int .i64 (sub q.vy p.vy))).setCell ⟨r, 2, none⟩ (.int .i64 (sub q.vz p.vz))).cell? ⟨r, 2, none⟩ = some (.int .i64 (sub q.vz p.vz)) := by go_simp
  have hfin : Kept w (((w2.setCell ⟨r, 0, none⟩ (.int .i64 (sub q.vx p.vx))).setCell ⟨r, 1, none⟩ (.int .i64 (sub q.vy p.vy))).setCell ⟨r, 2, none⟩ (.int .i64 (sub q.vz p.vz))) := by
    have h1 := HX.out.1
    have h2 := HKX.out
    exact (((H0.out.1.trans K2.out).setCell (p := ⟨r, 0, none⟩) (by show w.heap.size ≤ r; omega) _).setCell (p := ⟨r, 1, none⟩) (by show w.heap.size ≤ r; omega) _).setCell (p := ⟨r, 2, none⟩) (by show w.heap.size ≤ r; omega) _
  go_wp2_with fail
  exact bodyPost_ret (v := .agg #[.int .i64 (sub q.vx p.vx), .int .i64 (sub q.vy p.vy), .int .i64 (sub q.vz p.vz)]) (by simp [results, Try.results23, go_sem, z0, z1, z2]) rfl ⟨rfl, hfin⟩
end Go.Proofs.Ytpegjobehdihbaa
