/- cmp.Compare, geom.out's closure and slices.MinFunc over six exits answer what one expects: whatever the six. -/
import Derived.Test.YthhpcfnoiooopaaGeo6
import Derived.Deep.LoopGhost
import Derived.Deep.Light
namespace Go.Proofs.Ythhpcfnoiooopaa
open Go.ChangeShapes Go.WideShapes Go.ChangeAt Go.RowKit
set_option linter.unusedSimpArgs false

/-- A way out, and how far it is. -/
structure Ex where
  x : Int
  y : Int
  z : Int
  d : Int
/-- The second one, where it is shorter. -/
def Ex.or (m c : Ex) : Ex := if c.d < m.d then c else m
theorem Ex.or_lt {m c : Ex} (h : c.d < m.d) : m.or c = c := by unfold Ex.or; rw [if_pos h]
theorem Ex.or_ge {m c : Ex} (h : ¬ c.d < m.d) : m.or c = m := by unfold Ex.or; rw [if_neg h]

theorem or_lt' {m c q : Ex} (hm : m = q) (h : c.d < m.d) : q.or c = c := by subst hm; exact Ex.or_lt h
theorem or_ge' {m c q : Ex} (hm : m = q) (h : ¬ c.d < m.d) : q.or c = m := by subst hm; exact Ex.or_ge h
theorem isNaN_calls (n : Int) (w : World) : Calls Try.prog 96 #[.int .i64 n] w fun e w' => e = .returned (.bool false) ∧ w' = w := by
  have h : (n != n) = false := by simp
  go_enter Try.func96, Try.ntmps96
  go_wp2
  go_ret
  exact ⟨rfl, rfl⟩
def cmpI (a b : Int) : Int := if a < b then -1 else if b < a then 1 else 0
theorem cmpI_lt {a b : Int} (h : a < b) : decide (cmpI a b < 0) = true := by unfold cmpI; rw [if_pos h]; decide
theorem cmpI_ge {a b : Int} (h : ¬ a < b) : decide (cmpI a b < 0) = false := by
  unfold cmpI; rw [if_neg h]; split <;> decide
theorem compare_calls (a b : Int) (w : World) : Calls Try.prog 95 #[.int .i64 a, .int .i64 b] w fun e w' => e = .returned (.int .i64 (cmpI a b)) ∧ w' = w := by
  unfold cmpI
  by_cases h : a < b
  · rw [if_pos h]
    go_enter Try.func95, Try.ntmps95
    go_wp2_with (go_at_call 96; refine (isNaN_calls _ _).mono ?_; rintro e w1 ⟨rfl, rfl⟩)
    go_ret
    exact ⟨rfl, rfl⟩
  · rw [if_neg h]
    by_cases h2 : b < a
    · rw [if_pos h2]
      go_enter Try.func95, Try.ntmps95
      go_wp2_with (go_at_call 96; refine (isNaN_calls _ _).mono ?_; rintro e w1 ⟨rfl, rfl⟩)
      go_ret
      exact ⟨rfl, rfl⟩
    · rw [if_neg h2]
      go_enter Try.func95, Try.ntmps95
      go_wp2_with (go_at_call 96; refine (isNaN_calls _ _).mono ?_; rintro e w1 ⟨rfl, rfl⟩)
      go_ret
      exact ⟨rfl, rfl⟩
theorem out1_calls (a b : Ex) (w : World) : Calls Try.prog 94 #[.agg #[.int .i64 (a.x), .int .i64 (a.y), .int .i64 (a.z), .int .i64 (a.d)], .agg #[.int .i64 (b.x), .int .i64 (b.y), .int .i64 (b.z), .int .i64 (b.d)]] w fun e w' => e = .returned (.int .i64 (cmpI a.d b.d)) ∧ Kept w w' := by
  go_enter Try.func94, Try.ntmps94
  go_wp2_with (go_at_call 95; refine (compare_calls _ _ _).mono ?_; rintro e w1 ⟨rfl, rfl⟩)
  go_ret
  exact ⟨rfl, ((Kept.refl _).alloc _ _).alloc _ _⟩

theorem set4_of {w : World} {b : Nat} {v0 v1 v2 v3 u0 u1 u2 u3 : Value} (h0 : w.cell? ⟨b, 0, none⟩ = some u0) (h1 : w.cell? ⟨b, 1, none⟩ = some u1) (h2 : w.cell? ⟨b, 2, none⟩ = some u2) (h3 : w.cell? ⟨b, 3, none⟩ = some u3) :
    ((((w.setCell ⟨b, 0, none⟩ v0).setCell ⟨b, 1, none⟩ v1).setCell ⟨b, 2, none⟩ v2).setCell ⟨b, 3, none⟩ v3).cell? ⟨b, 0, none⟩ = some v0 ∧ ((((w.setCell ⟨b, 0, none⟩ v0).setCell ⟨b, 1, none⟩ v1).setCell ⟨b, 2, none⟩ v2).setCell ⟨b, 3, none⟩ v3).cell? ⟨b, 1, none⟩ = some v1 ∧ ((((w.setCell ⟨b, 0, none⟩ v0).setCell ⟨b, 1, none⟩ v1).setCell ⟨b, 2, none⟩ v2).setCell ⟨b, 3, none⟩ v3).cell? ⟨b, 2, none⟩ = some v2 ∧ ((((w.setCell ⟨b, 0, none⟩ v0).setCell ⟨b, 1, none⟩ v1).setCell ⟨b, 2, none⟩ v2).setCell ⟨b, 3, none⟩ v3).cell? ⟨b, 3, none⟩ = some v3 := by
  have n1 : ∀ i j : Nat, i ≠ j → (⟨b, i, none⟩ : Addr) ≠ ⟨b, j, none⟩ := fun i j h e => h (by injection e)
  exact ⟨(World.cell?_setCell_other _ _ _ _ (n1 3 0 (by decide))).trans ((World.cell?_setCell_other _ _ _ _ (n1 2 0 (by decide))).trans ((World.cell?_setCell_other _ _ _ _ (n1 1 0 (by decide))).trans (World.cell?_setCell_same _ _ _ (h0)))), (World.cell?_setCell_other _ _ _ _ (n1 3 1 (by decide))).trans ((World.cell?_setCell_other _ _ _ _ (n1 2 1 (by decide))).trans (World.cell?_setCell_same _ _ _ ((World.cell?_setCell_other _ _ _ _ (n1 0 1 (by decide))).trans (h1)))), (World.cell?_setCell_other _ _ _ _ (n1 3 2 (by decide))).trans (World.cell?_setCell_same _ _ _ ((World.cell?_setCell_other _ _ _ _ (n1 1 2 (by decide))).trans ((World.cell?_setCell_other _ _ _ _ (n1 0 2 (by decide))).trans (h2)))), World.cell?_setCell_same _ _ _ ((World.cell?_setCell_other _ _ _ _ (n1 2 3 (by decide))).trans ((World.cell?_setCell_other _ _ _ _ (n1 1 3 (by decide))).trans ((World.cell?_setCell_other _ _ _ _ (n1 0 3 (by decide))).trans (h3))))⟩
theorem kept_set4 {w w1 : World} {b : Nat} (k : Kept w w1) (h : w.heap.size ≤ b) (v0 v1 v2 v3 : Value) : Kept w ((((w1.setCell ⟨b, 0, none⟩ v0).setCell ⟨b, 1, none⟩ v1).setCell ⟨b, 2, none⟩ v2).setCell ⟨b, 3, none⟩ v3) :=
  ((((k.setCell (p := ⟨b, 0, none⟩) h v0).setCell (p := ⟨b, 1, none⟩) h v1).setCell (p := ⟨b, 2, none⟩) h v2).setCell (p := ⟨b, 3, none⟩) h v3)

/-- Six exits in a row. -/
def Six (b : Nat) (e0 e1 e2 e3 e4 e5 : Ex) (w : World) : Prop :=
  w.cell? ⟨b, 0, none⟩ = some (.int .i64 e0.x) ∧ w.cell? ⟨b, 1, none⟩ = some (.int .i64 e0.y) ∧ w.cell? ⟨b, 2, none⟩ = some (.int .i64 e0.z) ∧ w.cell? ⟨b, 3, none⟩ = some (.int .i64 e0.d) ∧ w.cell? ⟨b, 4, none⟩ = some (.int .i64 e1.x) ∧ w.cell? ⟨b, 5, none⟩ = some (.int .i64 e1.y) ∧ w.cell? ⟨b, 6, none⟩ = some (.int .i64 e1.z) ∧ w.cell? ⟨b, 7, none⟩ = some (.int .i64 e1.d) ∧ w.cell? ⟨b, 8, none⟩ = some (.int .i64 e2.x) ∧ w.cell? ⟨b, 9, none⟩ = some (.int .i64 e2.y) ∧ w.cell? ⟨b, 10, none⟩ = some (.int .i64 e2.z) ∧ w.cell? ⟨b, 11, none⟩ = some (.int .i64 e2.d) ∧ w.cell? ⟨b, 12, none⟩ = some (.int .i64 e3.x) ∧ w.cell? ⟨b, 13, none⟩ = some (.int .i64 e3.y) ∧ w.cell? ⟨b, 14, none⟩ = some (.int .i64 e3.z) ∧ w.cell? ⟨b, 15, none⟩ = some (.int .i64 e3.d) ∧ w.cell? ⟨b, 16, none⟩ = some (.int .i64 e4.x) ∧ w.cell? ⟨b, 17, none⟩ = some (.int .i64 e4.y) ∧ w.cell? ⟨b, 18, none⟩ = some (.int .i64 e4.z) ∧ w.cell? ⟨b, 19, none⟩ = some (.int .i64 e4.d) ∧ w.cell? ⟨b, 20, none⟩ = some (.int .i64 e5.x) ∧ w.cell? ⟨b, 21, none⟩ = some (.int .i64 e5.y) ∧ w.cell? ⟨b, 22, none⟩ = some (.int .i64 e5.z) ∧ w.cell? ⟨b, 23, none⟩ = some (.int .i64 e5.d)
theorem Six.step {b : Nat} {e0 e1 e2 e3 e4 e5 : Ex} {w w' : World} (k : Kept w w') (h : Six b e0 e1 e2 e3 e4 e5 w) : Six b e0 e1 e2 e3 e4 e5 w' := by
  obtain ⟨h0, h1, h2, h3, h4, h5, h6, h7, h8, h9, h10, h11, h12, h13, h14, h15, h16, h17, h18, h19, h20, h21, h22, h23⟩ := h
  exact ⟨kept_cell k h0, kept_cell k h1, kept_cell k h2, kept_cell k h3, kept_cell k h4, kept_cell k h5, kept_cell k h6, kept_cell k h7, kept_cell k h8, kept_cell k h9, kept_cell k h10, kept_cell k h11, kept_cell k h12, kept_cell k h13, kept_cell k h14, kept_cell k h15, kept_cell k h16, kept_cell k h17, kept_cell k h18, kept_cell k h19, kept_cell k h20, kept_cell k h21, kept_cell k h22, kept_cell k h23⟩
/-- The least one so far lies at m; r is the result's place. -/
def Best (m r : Nat) (b : Ex) (w : World) : Prop :=
  w.cell? ⟨m, 0, none⟩ = some (.int .i64 b.x) ∧ w.cell? ⟨m, 1, none⟩ = some (.int .i64 b.y) ∧ w.cell? ⟨m, 2, none⟩ = some (.int .i64 b.z) ∧ w.cell? ⟨m, 3, none⟩ = some (.int .i64 b.d) ∧ w.frozen? ⟨m, 0, none⟩ = false ∧ w.frozen? ⟨m, 1, none⟩ = false ∧ w.frozen? ⟨m, 2, none⟩ = false ∧ w.frozen? ⟨m, 3, none⟩ = false ∧ w.cell? ⟨r, 0, none⟩ = some (.int .i64 0) ∧ w.cell? ⟨r, 1, none⟩ = some (.int .i64 0) ∧ w.cell? ⟨r, 2, none⟩ = some (.int .i64 0) ∧ w.cell? ⟨r, 3, none⟩ = some (.int .i64 0) ∧ w.frozen? ⟨r, 0, none⟩ = false ∧ w.frozen? ⟨r, 1, none⟩ = false ∧ w.frozen? ⟨r, 2, none⟩ = false ∧ w.frozen? ⟨r, 3, none⟩ = false
theorem Best.step {m r : Nat} {b : Ex} {w w' : World} (k : Kept w w') (h : Best m r b w) : Best m r b w' := by
  obtain ⟨h0, h1, h2, h3, h4, h5, h6, h7, h8, h9, h10, h11, h12, h13, h14, h15⟩ := h
  exact ⟨kept_cell k h0, kept_cell k h1, kept_cell k h2, kept_cell k h3, kept_frozen k h4, kept_frozen k h5, kept_frozen k h6, kept_frozen k h7, kept_cell k h8, kept_cell k h9, kept_cell k h10, kept_cell k h11, kept_frozen k h12, kept_frozen k h13, kept_frozen k h14, kept_frozen k h15⟩
theorem Best.put {m r : Nat} {b : Ex} {w : World} (h : Best m r b w) (hn : m ≠ r) (c : Ex) : Best m r c ((((w.setCell ⟨m, 0, none⟩ (.int .i64 c.x)).setCell ⟨m, 1, none⟩ (.int .i64 c.y)).setCell ⟨m, 2, none⟩ (.int .i64 c.z)).setCell ⟨m, 3, none⟩ (.int .i64 c.d)) := by
  have n1 : ∀ i j : Nat, (⟨m, i, none⟩ : Addr) ≠ ⟨r, j, none⟩ := fun i j e => hn (by injection e)
  obtain ⟨h0, h1, h2, h3, h4, h5, h6, h7, h8, h9, h10, h11, h12, h13, h14, h15⟩ := h
  obtain ⟨z0, z1, z2, z3⟩ := set4_of (v0 := .int .i64 c.x) (v1 := .int .i64 c.y) (v2 := .int .i64 c.z) (v3 := .int .i64 c.d) h0 h1 h2 h3
  exact ⟨z0, z1, z2, z3, (World.frozen?_setCell _ _ _ _).trans ((World.frozen?_setCell _ _ _ _).trans ((World.frozen?_setCell _ _ _ _).trans ((World.frozen?_setCell _ _ _ _).trans (h4)))), (World.frozen?_setCell _ _ _ _).trans ((World.frozen?_setCell _ _ _ _).trans ((World.frozen?_setCell _ _ _ _).trans ((World.frozen?_setCell _ _ _ _).trans (h5)))), (World.frozen?_setCell _ _ _ _).trans ((World.frozen?_setCell _ _ _ _).trans ((World.frozen?_setCell _ _ _ _).trans ((World.frozen?_setCell _ _ _ _).trans (h6)))), (World.frozen?_setCell _ _ _ _).trans ((World.frozen?_setCell _ _ _ _).trans ((World.frozen?_setCell _ _ _ _).trans ((World.frozen?_setCell _ _ _ _).trans (h7)))), (World.cell?_setCell_other _ _ _ _ (n1 3 _)).trans ((World.cell?_setCell_other _ _ _ _ (n1 2 _)).trans ((World.cell?_setCell_other _ _ _ _ (n1 1 _)).trans ((World.cell?_setCell_other _ _ _ _ (n1 0 _)).trans (h8)))), (World.cell?_setCell_other _ _ _ _ (n1 3 _)).trans ((World.cell?_setCell_other _ _ _ _ (n1 2 _)).trans ((World.cell?_setCell_other _ _ _ _ (n1 1 _)).trans ((World.cell?_setCell_other _ _ _ _ (n1 0 _)).trans (h9)))), (World.cell?_setCell_other _ _ _ _ (n1 3 _)).trans ((World.cell?_setCell_other _ _ _ _ (n1 2 _)).trans ((World.cell?_setCell_other _ _ _ _ (n1 1 _)).trans ((World.cell?_setCell_other _ _ _ _ (n1 0 _)).trans (h10)))), (World.cell?_setCell_other _ _ _ _ (n1 3 _)).trans ((World.cell?_setCell_other _ _ _ _ (n1 2 _)).trans ((World.cell?_setCell_other _ _ _ _ (n1 1 _)).trans ((World.cell?_setCell_other _ _ _ _ (n1 0 _)).trans (h11)))), (World.frozen?_setCell _ _ _ _).trans ((World.frozen?_setCell _ _ _ _).trans ((World.frozen?_setCell _ _ _ _).trans ((World.frozen?_setCell _ _ _ _).trans (h12)))), (World.frozen?_setCell _ _ _ _).trans ((World.frozen?_setCell _ _ _ _).trans ((World.frozen?_setCell _ _ _ _).trans ((World.frozen?_setCell _ _ _ _).trans (h13)))), (World.frozen?_setCell _ _ _ _).trans ((World.frozen?_setCell _ _ _ _).trans ((World.frozen?_setCell _ _ _ _).trans ((World.frozen?_setCell _ _ _ _).trans (h14)))), (World.frozen?_setCell _ _ _ _).trans ((World.frozen?_setCell _ _ _ _).trans ((World.frozen?_setCell _ _ _ _).trans ((World.frozen?_setCell _ _ _ _).trans (h15))))⟩
theorem Best.eq {m r : Nat} {b b' : Ex} {w : World} (h : b' = b) (H : Best m r b w) : Best m r b' w := by rw [h]; exact H
def pickE (e0 e1 e2 e3 e4 e5 : Ex) : Nat → Ex
  | 0 => e0
  | 1 => e0.or e1
  | 2 => (e0.or e1).or e2
  | 3 => ((e0.or e1).or e2).or e3
  | 4 => (((e0.or e1).or e2).or e3).or e4
  | _ => ((((e0.or e1).or e2).or e3).or e4).or e5
set_option maxHeartbeats 8000000 in
theorem minFunc_calls (b : Nat) (e0 e1 e2 e3 e4 e5 : Ex) (w : World) (H : Six b e0 e1 e2 e3 e4 e5 w) :
    Calls Try.prog 93 #[.slice (some ⟨b, 0, none⟩) 6 6, .func (.func 94) #[] #[]] w fun e w' => e = .returned (.agg #[.int .i64 ((pickE e0 e1 e2 e3 e4 e5 5).x), .int .i64 ((pickE e0 e1 e2 e3 e4 e5 5).y), .int .i64 ((pickE e0 e1 e2 e3 e4 e5 5).z), .int .i64 ((pickE e0 e1 e2 e3 e4 e5 5).d)]) ∧ Kept w w' := by
  have HS : Hid (Six b e0 e1 e2 e3 e4 e5 w) := H
  have l0 := later H.1
  have l1 := later H.2.1
  have l2 := later H.2.2.1
  have l3 := later H.2.2.2.1
  clear H
  go_enter Try.func93, Try.ntmps93
  go_wp2
  clear l0 l1 l2 l3
  have hn : w.heap.size + 1 ≠ w.heap.size := by omega
  go_loopg [6] 6 (fun kx s6 wr => Kept w wr ∧ ((s6 = .int .i64 1 ∧ 5 ≤ kx ∧ Best (w.heap.size + 1) w.heap.size (pickE e0 e1 e2 e3 e4 e5 0) wr) ∨ (s6 = .int .i64 2 ∧ 4 ≤ kx ∧ Best (w.heap.size + 1) w.heap.size (pickE e0 e1 e2 e3 e4 e5 1) wr) ∨ (s6 = .int .i64 3 ∧ 3 ≤ kx ∧ Best (w.heap.size + 1) w.heap.size (pickE e0 e1 e2 e3 e4 e5 2) wr) ∨ (s6 = .int .i64 4 ∧ 2 ≤ kx ∧ Best (w.heap.size + 1) w.heap.size (pickE e0 e1 e2 e3 e4 e5 3) wr) ∨ (s6 = .int .i64 5 ∧ 1 ≤ kx ∧ Best (w.heap.size + 1) w.heap.size (pickE e0 e1 e2 e3 e4 e5 4) wr) ∨ (s6 = .int .i64 6 ∧ 0 ≤ kx ∧ Best (w.heap.size + 1) w.heap.size (pickE e0 e1 e2 e3 e4 e5 5) wr)))
  case atStart => exact ⟨((Kept.refl w).alloc _ _).alloc _ _, Or.inl ⟨rfl, by omega, by refine ⟨?_, ?_, ?_, ?_, ?_, ?_, ?_, ?_, ?_, ?_, ?_, ?_, ?_, ?_, ?_, ?_⟩ <;> (first | rfl | (go_simp <;> rfl))⟩⟩
  case round =>
    obtain ⟨hk, hrel⟩ := hrel
    rcases hrel with ⟨rfl, hkx, HB⟩ | ⟨rfl, hkx, HB⟩ | ⟨rfl, hkx, HB⟩ | ⟨rfl, hkx, HB⟩ | ⟨rfl, hkx, HB⟩ | ⟨rfl, hkx, HB⟩
    · obtain ⟨m, hm0⟩ : ∃ m, m = (pickE e0 e1 e2 e3 e4 e5 0) := ⟨_, rfl⟩
      rw [← hm0] at HB
      have hm : Aside (m = (pickE e0 e1 e2 e3 e4 e5 0)) := hm0
      clear hm0
      obtain ⟨_, _, _, _, c0, c1, c2, c3, _⟩ := HS.out.step hk
      have HB0 : Aside (Best (w.heap.size + 1) w.heap.size m wr) := HB
      obtain ⟨m0, m1, m2, m3, _⟩ := HB
      by_cases h : e1.d < m.d
      · have hd := cmpI_lt h
        have HL : Aside (e1.d < m.d) := h
        clear h
        go_wp2
        refine wp_region_held_drew (S := (fun w' => Kept wr w' ∧ w'.cell? ⟨b, 4, none⟩ = some (.int .i64 e1.x) ∧ w'.cell? ⟨b, 5, none⟩ = some (.int .i64 e1.y) ∧ w'.cell? ⟨b, 6, none⟩ = some (.int .i64 e1.z) ∧ w'.cell? ⟨b, 7, none⟩ = some (.int .i64 e1.d) ∧ w'.cell? ⟨w.heap.size + 1, 0, none⟩ = some (.int .i64 m.x) ∧ w'.cell? ⟨w.heap.size + 1, 1, none⟩ = some (.int .i64 m.y) ∧ w'.cell? ⟨w.heap.size + 1, 2, none⟩ = some (.int .i64 m.z) ∧ w'.cell? ⟨w.heap.size + 1, 3, none⟩ = some (.int .i64 m.d))) (by kernel_rfl) ?_ (fun hHeld1 => ?_)
        · (try dsimp only); exact ⟨(Kept.refl _).drew, kept_cell (Kept.refl _).drew c0, kept_cell (Kept.refl _).drew c1, kept_cell (Kept.refl _).drew c2, kept_cell (Kept.refl _).drew c3, kept_cell (Kept.refl _).drew m0, kept_cell (Kept.refl _).drew m1, kept_cell (Kept.refl _).drew m2, kept_cell (Kept.refl _).drew m3⟩
        refine wpAnyH_take (i := 0) (v := ?_) rfl (by kernel_rfl) (by kernel_rfl) (by kernel_rfl) (fun _ _ _ h => h) (Or.inl ⟨by rfl, ?_⟩) (by assumption) ?_
        rotate_left
        · intro w'' hSw; (try dsimp only at hSw); simp only [List.getElem_toArray, List.getElem_cons_succ, List.getElem_cons_zero]; (go_simp <;> with_reducible rfl)
        try simp only [Act.put, List.setIfInBounds_toArray, List.set_cons_zero, List.set_cons_succ, List.getElem_toArray, List.getElem_cons_succ, List.getElem_cons_zero]
        refine wpAnyH_take (i := 1) (v := ?_) rfl (by kernel_rfl) (by kernel_rfl) (by kernel_rfl) (fun _ _ _ h => h) (Or.inl ⟨by rfl, ?_⟩) (by assumption) ?_
        rotate_left
        · intro w'' hSw; (try dsimp only at hSw); simp only [List.getElem_toArray, List.getElem_cons_succ, List.getElem_cons_zero]; (go_simp <;> with_reducible rfl)
        try simp only [Act.put, List.setIfInBounds_toArray, List.set_cons_zero, List.set_cons_succ, List.getElem_toArray, List.getElem_cons_succ, List.getElem_cons_zero]
        refine wpAnyH_take (i := 2) (v := ?_) rfl (by kernel_rfl) (by kernel_rfl) (by kernel_rfl) (fun _ _ _ h => h) (Or.inl ⟨by rfl, ?_⟩) (by assumption) ?_
        rotate_left
        · intro w'' hSw; (try dsimp only at hSw); simp only [List.getElem_toArray, List.getElem_cons_succ, List.getElem_cons_zero]; (go_simp <;> with_reducible rfl)
        try simp only [Act.put, List.setIfInBounds_toArray, List.set_cons_zero, List.set_cons_succ, List.getElem_toArray, List.getElem_cons_succ, List.getElem_cons_zero]
        refine wpAnyH_take (i := 3) (v := ?_) rfl (by kernel_rfl) (by kernel_rfl) (by kernel_rfl) (fun _ _ _ h => h) (Or.inl ⟨by rfl, ?_⟩) (by assumption) ?_
        rotate_left
        · intro w'' hSw; (try dsimp only at hSw); simp only [List.getElem_toArray, List.getElem_cons_succ, List.getElem_cons_zero]; (go_simp <;> with_reducible rfl)
        try simp only [Act.put, List.setIfInBounds_toArray, List.set_cons_zero, List.set_cons_succ, List.getElem_toArray, List.getElem_cons_succ, List.getElem_cons_zero]
        refine wpAnyH_take (i := 4) (v := ?_) rfl (by kernel_rfl) (by kernel_rfl) (by kernel_rfl) (fun _ _ _ h => h) (Or.inl ⟨by rfl, ?_⟩) (by assumption) ?_
        rotate_left
        · intro w'' hSw; (try dsimp only at hSw); simp only [List.getElem_toArray, List.getElem_cons_succ, List.getElem_cons_zero]; (go_simp <;> with_reducible rfl)
        try simp only [Act.put, List.setIfInBounds_toArray, List.set_cons_zero, List.set_cons_succ, List.getElem_toArray, List.getElem_cons_succ, List.getElem_cons_zero]
        refine wpAnyH_take (i := 5) (v := ?_) rfl (by kernel_rfl) (by kernel_rfl) (by kernel_rfl) (fun _ _ _ h => h) (Or.inl ⟨by rfl, ?_⟩) (by assumption) ?_
        rotate_left
        · intro w'' hSw; (try dsimp only at hSw); simp only [List.getElem_toArray, List.getElem_cons_succ, List.getElem_cons_zero]; (go_simp <;> with_reducible rfl)
        try simp only [Act.put, List.setIfInBounds_toArray, List.set_cons_zero, List.set_cons_succ, List.getElem_toArray, List.getElem_cons_succ, List.getElem_cons_zero]
        refine wpAnyH_ready (rs := [6]) (by kernel_rfl) (by simp) ?_
        refine AllReadyH.cons rfl (fun K hK => ?_) AllReadyH.nil
        rw [if_pos (by rfl)]
        simp only [List.getElem_toArray, List.getElem_cons_succ, List.getElem_cons_zero]
        go_simp
        (go_at_call 94; refine (out1_calls e1 m _).mono ?_; rintro e w1 ⟨rfl, k1⟩)
        try go_wp2_with fail
        refine hK.out _ _ ?_ (fun hHeld2 => ?_)
        · (try dsimp only); exact ⟨hHeld1.1.trans k1, kept_cell k1 hHeld1.2.1, kept_cell k1 hHeld1.2.2.1, kept_cell k1 hHeld1.2.2.2.1, kept_cell k1 hHeld1.2.2.2.2.1, kept_cell k1 hHeld1.2.2.2.2.2.1, kept_cell k1 hHeld1.2.2.2.2.2.2.1, kept_cell k1 hHeld1.2.2.2.2.2.2.2.1, kept_cell k1 hHeld1.2.2.2.2.2.2.2.2⟩
        clear hK K hHeld1
        try simp only [Act.put, List.setIfInBounds_toArray, List.set_cons_zero, List.set_cons_succ, List.getElem_toArray, List.getElem_cons_succ, List.getElem_cons_zero]
        refine wpAnyH_take (i := 7) (v := ?_) rfl (by kernel_rfl) (by kernel_rfl) (by kernel_rfl) (fun _ _ _ h => h) (Or.inl ⟨by rfl, ?_⟩) (by assumption) ?_
        rotate_left
        · intro w'' hSw; (try dsimp only at hSw); simp only [List.getElem_toArray, List.getElem_cons_succ, List.getElem_cons_zero]; (go_simp <;> with_reducible rfl)
        try simp only [Act.put, List.setIfInBounds_toArray, List.set_cons_zero, List.set_cons_succ, List.getElem_toArray, List.getElem_cons_succ, List.getElem_cons_zero]
        refine wpAnyH_done (by kernel_rfl) ?_ _
        have HB1 := HB0.out.step hHeld2.1
        obtain ⟨kk, c0, c1, c2, c3, m0, m1, m2, m3⟩ := hHeld2
        have HB2 : Aside (Best (w.heap.size + 1) w.heap.size m w1) := HB1
        obtain ⟨_, _, _, _, f0, f1, f2, f3, _⟩ := HB1
        go_wp2
        go_roundg 4
        case measure => omega
        case rel => exact ⟨kept_set4 (hk.trans kk) (by omega) _ _ _ _, Or.inr (Or.inl ⟨rfl, by omega, Best.eq (b' := (pickE e0 e1 e2 e3 e4 e5 1)) (or_lt' (q := (pickE e0 e1 e2 e3 e4 e5 0)) hm.out HL.out) (HB2.out.put hn e1)⟩)⟩
      · have hd := cmpI_ge h
        have HL : Aside (¬ e1.d < m.d) := h
        clear h
        go_wp2
        refine wp_region_held_drew (S := (fun w' => Kept wr w' ∧ w'.cell? ⟨b, 4, none⟩ = some (.int .i64 e1.x) ∧ w'.cell? ⟨b, 5, none⟩ = some (.int .i64 e1.y) ∧ w'.cell? ⟨b, 6, none⟩ = some (.int .i64 e1.z) ∧ w'.cell? ⟨b, 7, none⟩ = some (.int .i64 e1.d) ∧ w'.cell? ⟨w.heap.size + 1, 0, none⟩ = some (.int .i64 m.x) ∧ w'.cell? ⟨w.heap.size + 1, 1, none⟩ = some (.int .i64 m.y) ∧ w'.cell? ⟨w.heap.size + 1, 2, none⟩ = some (.int .i64 m.z) ∧ w'.cell? ⟨w.heap.size + 1, 3, none⟩ = some (.int .i64 m.d))) (by kernel_rfl) ?_ (fun hHeld1 => ?_)
        · (try dsimp only); exact ⟨(Kept.refl _).drew, kept_cell (Kept.refl _).drew c0, kept_cell (Kept.refl _).drew c1, kept_cell (Kept.refl _).drew c2, kept_cell (Kept.refl _).drew c3, kept_cell (Kept.refl _).drew m0, kept_cell (Kept.refl _).drew m1, kept_cell (Kept.refl _).drew m2, kept_cell (Kept.refl _).drew m3⟩
        refine wpAnyH_take (i := 0) (v := ?_) rfl (by kernel_rfl) (by kernel_rfl) (by kernel_rfl) (fun _ _ _ h => h) (Or.inl ⟨by rfl, ?_⟩) (by assumption) ?_
        rotate_left
        · intro w'' hSw; (try dsimp only at hSw); simp only [List.getElem_toArray, List.getElem_cons_succ, List.getElem_cons_zero]; (go_simp <;> with_reducible rfl)
        try simp only [Act.put, List.setIfInBounds_toArray, List.set_cons_zero, List.set_cons_succ, List.getElem_toArray, List.getElem_cons_succ, List.getElem_cons_zero]
        refine wpAnyH_take (i := 1) (v := ?_) rfl (by kernel_rfl) (by kernel_rfl) (by kernel_rfl) (fun _ _ _ h => h) (Or.inl ⟨by rfl, ?_⟩) (by assumption) ?_
        rotate_left
        · intro w'' hSw; (try dsimp only at hSw); simp only [List.getElem_toArray, List.getElem_cons_succ, List.getElem_cons_zero]; (go_simp <;> with_reducible rfl)
        try simp only [Act.put, List.setIfInBounds_toArray, List.set_cons_zero, List.set_cons_succ, List.getElem_toArray, List.getElem_cons_succ, List.getElem_cons_zero]
        refine wpAnyH_take (i := 2) (v := ?_) rfl (by kernel_rfl) (by kernel_rfl) (by kernel_rfl) (fun _ _ _ h => h) (Or.inl ⟨by rfl, ?_⟩) (by assumption) ?_
        rotate_left
        · intro w'' hSw; (try dsimp only at hSw); simp only [List.getElem_toArray, List.getElem_cons_succ, List.getElem_cons_zero]; (go_simp <;> with_reducible rfl)
        try simp only [Act.put, List.setIfInBounds_toArray, List.set_cons_zero, List.set_cons_succ, List.getElem_toArray, List.getElem_cons_succ, List.getElem_cons_zero]
        refine wpAnyH_take (i := 3) (v := ?_) rfl (by kernel_rfl) (by kernel_rfl) (by kernel_rfl) (fun _ _ _ h => h) (Or.inl ⟨by rfl, ?_⟩) (by assumption) ?_
        rotate_left
        · intro w'' hSw; (try dsimp only at hSw); simp only [List.getElem_toArray, List.getElem_cons_succ, List.getElem_cons_zero]; (go_simp <;> with_reducible rfl)
        try simp only [Act.put, List.setIfInBounds_toArray, List.set_cons_zero, List.set_cons_succ, List.getElem_toArray, List.getElem_cons_succ, List.getElem_cons_zero]
        refine wpAnyH_take (i := 4) (v := ?_) rfl (by kernel_rfl) (by kernel_rfl) (by kernel_rfl) (fun _ _ _ h => h) (Or.inl ⟨by rfl, ?_⟩) (by assumption) ?_
        rotate_left
        · intro w'' hSw; (try dsimp only at hSw); simp only [List.getElem_toArray, List.getElem_cons_succ, List.getElem_cons_zero]; (go_simp <;> with_reducible rfl)
        try simp only [Act.put, List.setIfInBounds_toArray, List.set_cons_zero, List.set_cons_succ, List.getElem_toArray, List.getElem_cons_succ, List.getElem_cons_zero]
        refine wpAnyH_take (i := 5) (v := ?_) rfl (by kernel_rfl) (by kernel_rfl) (by kernel_rfl) (fun _ _ _ h => h) (Or.inl ⟨by rfl, ?_⟩) (by assumption) ?_
        rotate_left
        · intro w'' hSw; (try dsimp only at hSw); simp only [List.getElem_toArray, List.getElem_cons_succ, List.getElem_cons_zero]; (go_simp <;> with_reducible rfl)
        try simp only [Act.put, List.setIfInBounds_toArray, List.set_cons_zero, List.set_cons_succ, List.getElem_toArray, List.getElem_cons_succ, List.getElem_cons_zero]
        refine wpAnyH_ready (rs := [6]) (by kernel_rfl) (by simp) ?_
        refine AllReadyH.cons rfl (fun K hK => ?_) AllReadyH.nil
        rw [if_pos (by rfl)]
        simp only [List.getElem_toArray, List.getElem_cons_succ, List.getElem_cons_zero]
        go_simp
        (go_at_call 94; refine (out1_calls e1 m _).mono ?_; rintro e w1 ⟨rfl, k1⟩)
        try go_wp2_with fail
        refine hK.out _ _ ?_ (fun hHeld2 => ?_)
        · (try dsimp only); exact ⟨hHeld1.1.trans k1, kept_cell k1 hHeld1.2.1, kept_cell k1 hHeld1.2.2.1, kept_cell k1 hHeld1.2.2.2.1, kept_cell k1 hHeld1.2.2.2.2.1, kept_cell k1 hHeld1.2.2.2.2.2.1, kept_cell k1 hHeld1.2.2.2.2.2.2.1, kept_cell k1 hHeld1.2.2.2.2.2.2.2.1, kept_cell k1 hHeld1.2.2.2.2.2.2.2.2⟩
        clear hK K hHeld1
        try simp only [Act.put, List.setIfInBounds_toArray, List.set_cons_zero, List.set_cons_succ, List.getElem_toArray, List.getElem_cons_succ, List.getElem_cons_zero]
        refine wpAnyH_take (i := 7) (v := ?_) rfl (by kernel_rfl) (by kernel_rfl) (by kernel_rfl) (fun _ _ _ h => h) (Or.inl ⟨by rfl, ?_⟩) (by assumption) ?_
        rotate_left
        · intro w'' hSw; (try dsimp only at hSw); simp only [List.getElem_toArray, List.getElem_cons_succ, List.getElem_cons_zero]; (go_simp <;> with_reducible rfl)
        try simp only [Act.put, List.setIfInBounds_toArray, List.set_cons_zero, List.set_cons_succ, List.getElem_toArray, List.getElem_cons_succ, List.getElem_cons_zero]
        refine wpAnyH_done (by kernel_rfl) ?_ _
        have HB1 := HB0.out.step hHeld2.1
        have kk := hHeld2.1
        clear hHeld2
        go_wp2
        go_roundg 4
        case measure => omega
        case rel => exact ⟨hk.trans kk, Or.inr (Or.inl ⟨rfl, by omega, Best.eq (b' := (pickE e0 e1 e2 e3 e4 e5 1)) (or_ge' (q := (pickE e0 e1 e2 e3 e4 e5 0)) hm.out (by have := HL.out; omega)) HB1⟩)⟩
    · obtain ⟨m, hm0⟩ : ∃ m, m = (pickE e0 e1 e2 e3 e4 e5 1) := ⟨_, rfl⟩
      rw [← hm0] at HB
      have hm : Aside (m = (pickE e0 e1 e2 e3 e4 e5 1)) := hm0
      clear hm0
      obtain ⟨_, _, _, _, _, _, _, _, c0, c1, c2, c3, _⟩ := HS.out.step hk
      have HB0 : Aside (Best (w.heap.size + 1) w.heap.size m wr) := HB
      obtain ⟨m0, m1, m2, m3, _⟩ := HB
      by_cases h : e2.d < m.d
      · have hd := cmpI_lt h
        have HL : Aside (e2.d < m.d) := h
        clear h
        go_wp2
        refine wp_region_held_drew (S := (fun w' => Kept wr w' ∧ w'.cell? ⟨b, 8, none⟩ = some (.int .i64 e2.x) ∧ w'.cell? ⟨b, 9, none⟩ = some (.int .i64 e2.y) ∧ w'.cell? ⟨b, 10, none⟩ = some (.int .i64 e2.z) ∧ w'.cell? ⟨b, 11, none⟩ = some (.int .i64 e2.d) ∧ w'.cell? ⟨w.heap.size + 1, 0, none⟩ = some (.int .i64 m.x) ∧ w'.cell? ⟨w.heap.size + 1, 1, none⟩ = some (.int .i64 m.y) ∧ w'.cell? ⟨w.heap.size + 1, 2, none⟩ = some (.int .i64 m.z) ∧ w'.cell? ⟨w.heap.size + 1, 3, none⟩ = some (.int .i64 m.d))) (by kernel_rfl) ?_ (fun hHeld1 => ?_)
        · (try dsimp only); exact ⟨(Kept.refl _).drew, kept_cell (Kept.refl _).drew c0, kept_cell (Kept.refl _).drew c1, kept_cell (Kept.refl _).drew c2, kept_cell (Kept.refl _).drew c3, kept_cell (Kept.refl _).drew m0, kept_cell (Kept.refl _).drew m1, kept_cell (Kept.refl _).drew m2, kept_cell (Kept.refl _).drew m3⟩
        refine wpAnyH_take (i := 0) (v := ?_) rfl (by kernel_rfl) (by kernel_rfl) (by kernel_rfl) (fun _ _ _ h => h) (Or.inl ⟨by rfl, ?_⟩) (by assumption) ?_
        rotate_left
        · intro w'' hSw; (try dsimp only at hSw); simp only [List.getElem_toArray, List.getElem_cons_succ, List.getElem_cons_zero]; (go_simp <;> with_reducible rfl)
        try simp only [Act.put, List.setIfInBounds_toArray, List.set_cons_zero, List.set_cons_succ, List.getElem_toArray, List.getElem_cons_succ, List.getElem_cons_zero]
        refine wpAnyH_take (i := 1) (v := ?_) rfl (by kernel_rfl) (by kernel_rfl) (by kernel_rfl) (fun _ _ _ h => h) (Or.inl ⟨by rfl, ?_⟩) (by assumption) ?_
        rotate_left
        · intro w'' hSw; (try dsimp only at hSw); simp only [List.getElem_toArray, List.getElem_cons_succ, List.getElem_cons_zero]; (go_simp <;> with_reducible rfl)
        try simp only [Act.put, List.setIfInBounds_toArray, List.set_cons_zero, List.set_cons_succ, List.getElem_toArray, List.getElem_cons_succ, List.getElem_cons_zero]
        refine wpAnyH_take (i := 2) (v := ?_) rfl (by kernel_rfl) (by kernel_rfl) (by kernel_rfl) (fun _ _ _ h => h) (Or.inl ⟨by rfl, ?_⟩) (by assumption) ?_
        rotate_left
        · intro w'' hSw; (try dsimp only at hSw); simp only [List.getElem_toArray, List.getElem_cons_succ, List.getElem_cons_zero]; (go_simp <;> with_reducible rfl)
        try simp only [Act.put, List.setIfInBounds_toArray, List.set_cons_zero, List.set_cons_succ, List.getElem_toArray, List.getElem_cons_succ, List.getElem_cons_zero]
        refine wpAnyH_take (i := 3) (v := ?_) rfl (by kernel_rfl) (by kernel_rfl) (by kernel_rfl) (fun _ _ _ h => h) (Or.inl ⟨by rfl, ?_⟩) (by assumption) ?_
        rotate_left
        · intro w'' hSw; (try dsimp only at hSw); simp only [List.getElem_toArray, List.getElem_cons_succ, List.getElem_cons_zero]; (go_simp <;> with_reducible rfl)
        try simp only [Act.put, List.setIfInBounds_toArray, List.set_cons_zero, List.set_cons_succ, List.getElem_toArray, List.getElem_cons_succ, List.getElem_cons_zero]
        refine wpAnyH_take (i := 4) (v := ?_) rfl (by kernel_rfl) (by kernel_rfl) (by kernel_rfl) (fun _ _ _ h => h) (Or.inl ⟨by rfl, ?_⟩) (by assumption) ?_
        rotate_left
        · intro w'' hSw; (try dsimp only at hSw); simp only [List.getElem_toArray, List.getElem_cons_succ, List.getElem_cons_zero]; (go_simp <;> with_reducible rfl)
        try simp only [Act.put, List.setIfInBounds_toArray, List.set_cons_zero, List.set_cons_succ, List.getElem_toArray, List.getElem_cons_succ, List.getElem_cons_zero]
        refine wpAnyH_take (i := 5) (v := ?_) rfl (by kernel_rfl) (by kernel_rfl) (by kernel_rfl) (fun _ _ _ h => h) (Or.inl ⟨by rfl, ?_⟩) (by assumption) ?_
        rotate_left
        · intro w'' hSw; (try dsimp only at hSw); simp only [List.getElem_toArray, List.getElem_cons_succ, List.getElem_cons_zero]; (go_simp <;> with_reducible rfl)
        try simp only [Act.put, List.setIfInBounds_toArray, List.set_cons_zero, List.set_cons_succ, List.getElem_toArray, List.getElem_cons_succ, List.getElem_cons_zero]
        refine wpAnyH_ready (rs := [6]) (by kernel_rfl) (by simp) ?_
        refine AllReadyH.cons rfl (fun K hK => ?_) AllReadyH.nil
        rw [if_pos (by rfl)]
        simp only [List.getElem_toArray, List.getElem_cons_succ, List.getElem_cons_zero]
        go_simp
        (go_at_call 94; refine (out1_calls e2 m _).mono ?_; rintro e w1 ⟨rfl, k1⟩)
        try go_wp2_with fail
        refine hK.out _ _ ?_ (fun hHeld2 => ?_)
        · (try dsimp only); exact ⟨hHeld1.1.trans k1, kept_cell k1 hHeld1.2.1, kept_cell k1 hHeld1.2.2.1, kept_cell k1 hHeld1.2.2.2.1, kept_cell k1 hHeld1.2.2.2.2.1, kept_cell k1 hHeld1.2.2.2.2.2.1, kept_cell k1 hHeld1.2.2.2.2.2.2.1, kept_cell k1 hHeld1.2.2.2.2.2.2.2.1, kept_cell k1 hHeld1.2.2.2.2.2.2.2.2⟩
        clear hK K hHeld1
        try simp only [Act.put, List.setIfInBounds_toArray, List.set_cons_zero, List.set_cons_succ, List.getElem_toArray, List.getElem_cons_succ, List.getElem_cons_zero]
        refine wpAnyH_take (i := 7) (v := ?_) rfl (by kernel_rfl) (by kernel_rfl) (by kernel_rfl) (fun _ _ _ h => h) (Or.inl ⟨by rfl, ?_⟩) (by assumption) ?_
        rotate_left
        · intro w'' hSw; (try dsimp only at hSw); simp only [List.getElem_toArray, List.getElem_cons_succ, List.getElem_cons_zero]; (go_simp <;> with_reducible rfl)
        try simp only [Act.put, List.setIfInBounds_toArray, List.set_cons_zero, List.set_cons_succ, List.getElem_toArray, List.getElem_cons_succ, List.getElem_cons_zero]
        refine wpAnyH_done (by kernel_rfl) ?_ _
        have HB1 := HB0.out.step hHeld2.1
        obtain ⟨kk, c0, c1, c2, c3, m0, m1, m2, m3⟩ := hHeld2
        have HB2 : Aside (Best (w.heap.size + 1) w.heap.size m w1) := HB1
        obtain ⟨_, _, _, _, f0, f1, f2, f3, _⟩ := HB1
        go_wp2
        go_roundg 3
        case measure => omega
        case rel => exact ⟨kept_set4 (hk.trans kk) (by omega) _ _ _ _, Or.inr (Or.inr (Or.inl ⟨rfl, by omega, Best.eq (b' := (pickE e0 e1 e2 e3 e4 e5 2)) (or_lt' (q := (pickE e0 e1 e2 e3 e4 e5 1)) hm.out HL.out) (HB2.out.put hn e2)⟩))⟩
      · have hd := cmpI_ge h
        have HL : Aside (¬ e2.d < m.d) := h
        clear h
        go_wp2
        refine wp_region_held_drew (S := (fun w' => Kept wr w' ∧ w'.cell? ⟨b, 8, none⟩ = some (.int .i64 e2.x) ∧ w'.cell? ⟨b, 9, none⟩ = some (.int .i64 e2.y) ∧ w'.cell? ⟨b, 10, none⟩ = some (.int .i64 e2.z) ∧ w'.cell? ⟨b, 11, none⟩ = some (.int .i64 e2.d) ∧ w'.cell? ⟨w.heap.size + 1, 0, none⟩ = some (.int .i64 m.x) ∧ w'.cell? ⟨w.heap.size + 1, 1, none⟩ = some (.int .i64 m.y) ∧ w'.cell? ⟨w.heap.size + 1, 2, none⟩ = some (.int .i64 m.z) ∧ w'.cell? ⟨w.heap.size + 1, 3, none⟩ = some (.int .i64 m.d))) (by kernel_rfl) ?_ (fun hHeld1 => ?_)
        · (try dsimp only); exact ⟨(Kept.refl _).drew, kept_cell (Kept.refl _).drew c0, kept_cell (Kept.refl _).drew c1, kept_cell (Kept.refl _).drew c2, kept_cell (Kept.refl _).drew c3, kept_cell (Kept.refl _).drew m0, kept_cell (Kept.refl _).drew m1, kept_cell (Kept.refl _).drew m2, kept_cell (Kept.refl _).drew m3⟩
        refine wpAnyH_take (i := 0) (v := ?_) rfl (by kernel_rfl) (by kernel_rfl) (by kernel_rfl) (fun _ _ _ h => h) (Or.inl ⟨by rfl, ?_⟩) (by assumption) ?_
        rotate_left
        · intro w'' hSw; (try dsimp only at hSw); simp only [List.getElem_toArray, List.getElem_cons_succ, List.getElem_cons_zero]; (go_simp <;> with_reducible rfl)
        try simp only [Act.put, List.setIfInBounds_toArray, List.set_cons_zero, List.set_cons_succ, List.getElem_toArray, List.getElem_cons_succ, List.getElem_cons_zero]
        refine wpAnyH_take (i := 1) (v := ?_) rfl (by kernel_rfl) (by kernel_rfl) (by kernel_rfl) (fun _ _ _ h => h) (Or.inl ⟨by rfl, ?_⟩) (by assumption) ?_
        rotate_left
        · intro w'' hSw; (try dsimp only at hSw); simp only [List.getElem_toArray, List.getElem_cons_succ, List.getElem_cons_zero]; (go_simp <;> with_reducible rfl)
        try simp only [Act.put, List.setIfInBounds_toArray, List.set_cons_zero, List.set_cons_succ, List.getElem_toArray, List.getElem_cons_succ, List.getElem_cons_zero]
        refine wpAnyH_take (i := 2) (v := ?_) rfl (by kernel_rfl) (by kernel_rfl) (by kernel_rfl) (fun _ _ _ h => h) (Or.inl ⟨by rfl, ?_⟩) (by assumption) ?_
        rotate_left
        · intro w'' hSw; (try dsimp only at hSw); simp only [List.getElem_toArray, List.getElem_cons_succ, List.getElem_cons_zero]; (go_simp <;> with_reducible rfl)
        try simp only [Act.put, List.setIfInBounds_toArray, List.set_cons_zero, List.set_cons_succ, List.getElem_toArray, List.getElem_cons_succ, List.getElem_cons_zero]
        refine wpAnyH_take (i := 3) (v := ?_) rfl (by kernel_rfl) (by kernel_rfl) (by kernel_rfl) (fun _ _ _ h => h) (Or.inl ⟨by rfl, ?_⟩) (by assumption) ?_
        rotate_left
        · intro w'' hSw; (try dsimp only at hSw); simp only [List.getElem_toArray, List.getElem_cons_succ, List.getElem_cons_zero]; (go_simp <;> with_reducible rfl)
        try simp only [Act.put, List.setIfInBounds_toArray, List.set_cons_zero, List.set_cons_succ, List.getElem_toArray, List.getElem_cons_succ, List.getElem_cons_zero]
        refine wpAnyH_take (i := 4) (v := ?_) rfl (by kernel_rfl) (by kernel_rfl) (by kernel_rfl) (fun _ _ _ h => h) (Or.inl ⟨by rfl, ?_⟩) (by assumption) ?_
        rotate_left
        · intro w'' hSw; (try dsimp only at hSw); simp only [List.getElem_toArray, List.getElem_cons_succ, List.getElem_cons_zero]; (go_simp <;> with_reducible rfl)
        try simp only [Act.put, List.setIfInBounds_toArray, List.set_cons_zero, List.set_cons_succ, List.getElem_toArray, List.getElem_cons_succ, List.getElem_cons_zero]
        refine wpAnyH_take (i := 5) (v := ?_) rfl (by kernel_rfl) (by kernel_rfl) (by kernel_rfl) (fun _ _ _ h => h) (Or.inl ⟨by rfl, ?_⟩) (by assumption) ?_
        rotate_left
        · intro w'' hSw; (try dsimp only at hSw); simp only [List.getElem_toArray, List.getElem_cons_succ, List.getElem_cons_zero]; (go_simp <;> with_reducible rfl)
        try simp only [Act.put, List.setIfInBounds_toArray, List.set_cons_zero, List.set_cons_succ, List.getElem_toArray, List.getElem_cons_succ, List.getElem_cons_zero]
        refine wpAnyH_ready (rs := [6]) (by kernel_rfl) (by simp) ?_
        refine AllReadyH.cons rfl (fun K hK => ?_) AllReadyH.nil
        rw [if_pos (by rfl)]
        simp only [List.getElem_toArray, List.getElem_cons_succ, List.getElem_cons_zero]
        go_simp
        (go_at_call 94; refine (out1_calls e2 m _).mono ?_; rintro e w1 ⟨rfl, k1⟩)
        try go_wp2_with fail
        refine hK.out _ _ ?_ (fun hHeld2 => ?_)
        · (try dsimp only); exact ⟨hHeld1.1.trans k1, kept_cell k1 hHeld1.2.1, kept_cell k1 hHeld1.2.2.1, kept_cell k1 hHeld1.2.2.2.1, kept_cell k1 hHeld1.2.2.2.2.1, kept_cell k1 hHeld1.2.2.2.2.2.1, kept_cell k1 hHeld1.2.2.2.2.2.2.1, kept_cell k1 hHeld1.2.2.2.2.2.2.2.1, kept_cell k1 hHeld1.2.2.2.2.2.2.2.2⟩
        clear hK K hHeld1
        try simp only [Act.put, List.setIfInBounds_toArray, List.set_cons_zero, List.set_cons_succ, List.getElem_toArray, List.getElem_cons_succ, List.getElem_cons_zero]
        refine wpAnyH_take (i := 7) (v := ?_) rfl (by kernel_rfl) (by kernel_rfl) (by kernel_rfl) (fun _ _ _ h => h) (Or.inl ⟨by rfl, ?_⟩) (by assumption) ?_
        rotate_left
        · intro w'' hSw; (try dsimp only at hSw); simp only [List.getElem_toArray, List.getElem_cons_succ, List.getElem_cons_zero]; (go_simp <;> with_reducible rfl)
        try simp only [Act.put, List.setIfInBounds_toArray, List.set_cons_zero, List.set_cons_succ, List.getElem_toArray, List.getElem_cons_succ, List.getElem_cons_zero]
        refine wpAnyH_done (by kernel_rfl) ?_ _
        have HB1 := HB0.out.step hHeld2.1
        have kk := hHeld2.1
        clear hHeld2
        go_wp2
        go_roundg 3
        case measure => omega
        case rel => exact ⟨hk.trans kk, Or.inr (Or.inr (Or.inl ⟨rfl, by omega, Best.eq (b' := (pickE e0 e1 e2 e3 e4 e5 2)) (or_ge' (q := (pickE e0 e1 e2 e3 e4 e5 1)) hm.out (by have := HL.out; omega)) HB1⟩))⟩
    · obtain ⟨m, hm0⟩ : ∃ m, m = (pickE e0 e1 e2 e3 e4 e5 2) := ⟨_, rfl⟩
      rw [← hm0] at HB
      have hm : Aside (m = (pickE e0 e1 e2 e3 e4 e5 2)) := hm0
      clear hm0
      obtain ⟨_, _, _, _, _, _, _, _, _, _, _, _, c0, c1, c2, c3, _⟩ := HS.out.step hk
      have HB0 : Aside (Best (w.heap.size + 1) w.heap.size m wr) := HB
      obtain ⟨m0, m1, m2, m3, _⟩ := HB
      by_cases h : e3.d < m.d
      · have hd := cmpI_lt h
        have HL : Aside (e3.d < m.d) := h
        clear h
        go_wp2
        refine wp_region_held_drew (S := (fun w' => Kept wr w' ∧ w'.cell? ⟨b, 12, none⟩ = some (.int .i64 e3.x) ∧ w'.cell? ⟨b, 13, none⟩ = some (.int .i64 e3.y) ∧ w'.cell? ⟨b, 14, none⟩ = some (.int .i64 e3.z) ∧ w'.cell? ⟨b, 15, none⟩ = some (.int .i64 e3.d) ∧ w'.cell? ⟨w.heap.size + 1, 0, none⟩ = some (.int .i64 m.x) ∧ w'.cell? ⟨w.heap.size + 1, 1, none⟩ = some (.int .i64 m.y) ∧ w'.cell? ⟨w.heap.size + 1, 2, none⟩ = some (.int .i64 m.z) ∧ w'.cell? ⟨w.heap.size + 1, 3, none⟩ = some (.int .i64 m.d))) (by kernel_rfl) ?_ (fun hHeld1 => ?_)
        · (try dsimp only); exact ⟨(Kept.refl _).drew, kept_cell (Kept.refl _).drew c0, kept_cell (Kept.refl _).drew c1, kept_cell (Kept.refl _).drew c2, kept_cell (Kept.refl _).drew c3, kept_cell (Kept.refl _).drew m0, kept_cell (Kept.refl _).drew m1, kept_cell (Kept.refl _).drew m2, kept_cell (Kept.refl _).drew m3⟩
        refine wpAnyH_take (i := 0) (v := ?_) rfl (by kernel_rfl) (by kernel_rfl) (by kernel_rfl) (fun _ _ _ h => h) (Or.inl ⟨by rfl, ?_⟩) (by assumption) ?_
        rotate_left
        · intro w'' hSw; (try dsimp only at hSw); simp only [List.getElem_toArray, List.getElem_cons_succ, List.getElem_cons_zero]; (go_simp <;> with_reducible rfl)
        try simp only [Act.put, List.setIfInBounds_toArray, List.set_cons_zero, List.set_cons_succ, List.getElem_toArray, List.getElem_cons_succ, List.getElem_cons_zero]
        refine wpAnyH_take (i := 1) (v := ?_) rfl (by kernel_rfl) (by kernel_rfl) (by kernel_rfl) (fun _ _ _ h => h) (Or.inl ⟨by rfl, ?_⟩) (by assumption) ?_
        rotate_left
        · intro w'' hSw; (try dsimp only at hSw); simp only [List.getElem_toArray, List.getElem_cons_succ, List.getElem_cons_zero]; (go_simp <;> with_reducible rfl)
        try simp only [Act.put, List.setIfInBounds_toArray, List.set_cons_zero, List.set_cons_succ, List.getElem_toArray, List.getElem_cons_succ, List.getElem_cons_zero]
        refine wpAnyH_take (i := 2) (v := ?_) rfl (by kernel_rfl) (by kernel_rfl) (by kernel_rfl) (fun _ _ _ h => h) (Or.inl ⟨by rfl, ?_⟩) (by assumption) ?_
        rotate_left
        · intro w'' hSw; (try dsimp only at hSw); simp only [List.getElem_toArray, List.getElem_cons_succ, List.getElem_cons_zero]; (go_simp <;> with_reducible rfl)
        try simp only [Act.put, List.setIfInBounds_toArray, List.set_cons_zero, List.set_cons_succ, List.getElem_toArray, List.getElem_cons_succ, List.getElem_cons_zero]
        refine wpAnyH_take (i := 3) (v := ?_) rfl (by kernel_rfl) (by kernel_rfl) (by kernel_rfl) (fun _ _ _ h => h) (Or.inl ⟨by rfl, ?_⟩) (by assumption) ?_
        rotate_left
        · intro w'' hSw; (try dsimp only at hSw); simp only [List.getElem_toArray, List.getElem_cons_succ, List.getElem_cons_zero]; (go_simp <;> with_reducible rfl)
        try simp only [Act.put, List.setIfInBounds_toArray, List.set_cons_zero, List.set_cons_succ, List.getElem_toArray, List.getElem_cons_succ, List.getElem_cons_zero]
        refine wpAnyH_take (i := 4) (v := ?_) rfl (by kernel_rfl) (by kernel_rfl) (by kernel_rfl) (fun _ _ _ h => h) (Or.inl ⟨by rfl, ?_⟩) (by assumption) ?_
        rotate_left
        · intro w'' hSw; (try dsimp only at hSw); simp only [List.getElem_toArray, List.getElem_cons_succ, List.getElem_cons_zero]; (go_simp <;> with_reducible rfl)
        try simp only [Act.put, List.setIfInBounds_toArray, List.set_cons_zero, List.set_cons_succ, List.getElem_toArray, List.getElem_cons_succ, List.getElem_cons_zero]
        refine wpAnyH_take (i := 5) (v := ?_) rfl (by kernel_rfl) (by kernel_rfl) (by kernel_rfl) (fun _ _ _ h => h) (Or.inl ⟨by rfl, ?_⟩) (by assumption) ?_
        rotate_left
        · intro w'' hSw; (try dsimp only at hSw); simp only [List.getElem_toArray, List.getElem_cons_succ, List.getElem_cons_zero]; (go_simp <;> with_reducible rfl)
        try simp only [Act.put, List.setIfInBounds_toArray, List.set_cons_zero, List.set_cons_succ, List.getElem_toArray, List.getElem_cons_succ, List.getElem_cons_zero]
        refine wpAnyH_ready (rs := [6]) (by kernel_rfl) (by simp) ?_
        refine AllReadyH.cons rfl (fun K hK => ?_) AllReadyH.nil
        rw [if_pos (by rfl)]
        simp only [List.getElem_toArray, List.getElem_cons_succ, List.getElem_cons_zero]
        go_simp
        (go_at_call 94; refine (out1_calls e3 m _).mono ?_; rintro e w1 ⟨rfl, k1⟩)
        try go_wp2_with fail
        refine hK.out _ _ ?_ (fun hHeld2 => ?_)
        · (try dsimp only); exact ⟨hHeld1.1.trans k1, kept_cell k1 hHeld1.2.1, kept_cell k1 hHeld1.2.2.1, kept_cell k1 hHeld1.2.2.2.1, kept_cell k1 hHeld1.2.2.2.2.1, kept_cell k1 hHeld1.2.2.2.2.2.1, kept_cell k1 hHeld1.2.2.2.2.2.2.1, kept_cell k1 hHeld1.2.2.2.2.2.2.2.1, kept_cell k1 hHeld1.2.2.2.2.2.2.2.2⟩
        clear hK K hHeld1
        try simp only [Act.put, List.setIfInBounds_toArray, List.set_cons_zero, List.set_cons_succ, List.getElem_toArray, List.getElem_cons_succ, List.getElem_cons_zero]
        refine wpAnyH_take (i := 7) (v := ?_) rfl (by kernel_rfl) (by kernel_rfl) (by kernel_rfl) (fun _ _ _ h => h) (Or.inl ⟨by rfl, ?_⟩) (by assumption) ?_
        rotate_left
        · intro w'' hSw; (try dsimp only at hSw); simp only [List.getElem_toArray, List.getElem_cons_succ, List.getElem_cons_zero]; (go_simp <;> with_reducible rfl)
        try simp only [Act.put, List.setIfInBounds_toArray, List.set_cons_zero, List.set_cons_succ, List.getElem_toArray, List.getElem_cons_succ, List.getElem_cons_zero]
        refine wpAnyH_done (by kernel_rfl) ?_ _
        have HB1 := HB0.out.step hHeld2.1
        obtain ⟨kk, c0, c1, c2, c3, m0, m1, m2, m3⟩ := hHeld2
        have HB2 : Aside (Best (w.heap.size + 1) w.heap.size m w1) := HB1
        obtain ⟨_, _, _, _, f0, f1, f2, f3, _⟩ := HB1
        go_wp2
        go_roundg 2
        case measure => omega
        case rel => exact ⟨kept_set4 (hk.trans kk) (by omega) _ _ _ _, Or.inr (Or.inr (Or.inr (Or.inl ⟨rfl, by omega, Best.eq (b' := (pickE e0 e1 e2 e3 e4 e5 3)) (or_lt' (q := (pickE e0 e1 e2 e3 e4 e5 2)) hm.out HL.out) (HB2.out.put hn e3)⟩)))⟩
      · have hd := cmpI_ge h
        have HL : Aside (¬ e3.d < m.d) := h
        clear h
        go_wp2
        refine wp_region_held_drew (S := (fun w' => Kept wr w' ∧ w'.cell? ⟨b, 12, none⟩ = some (.int .i64 e3.x) ∧ w'.cell? ⟨b, 13, none⟩ = some (.int .i64 e3.y) ∧ w'.cell? ⟨b, 14, none⟩ = some (.int .i64 e3.z) ∧ w'.cell? ⟨b, 15, none⟩ = some (.int .i64 e3.d) ∧ w'.cell? ⟨w.heap.size + 1, 0, none⟩ = some (.int .i64 m.x) ∧ w'.cell? ⟨w.heap.size + 1, 1, none⟩ = some (.int .i64 m.y) ∧ w'.cell? ⟨w.heap.size + 1, 2, none⟩ = some (.int .i64 m.z) ∧ w'.cell? ⟨w.heap.size + 1, 3, none⟩ = some (.int .i64 m.d))) (by kernel_rfl) ?_ (fun hHeld1 => ?_)
        · (try dsimp only); exact ⟨(Kept.refl _).drew, kept_cell (Kept.refl _).drew c0, kept_cell (Kept.refl _).drew c1, kept_cell (Kept.refl _).drew c2, kept_cell (Kept.refl _).drew c3, kept_cell (Kept.refl _).drew m0, kept_cell (Kept.refl _).drew m1, kept_cell (Kept.refl _).drew m2, kept_cell (Kept.refl _).drew m3⟩
        refine wpAnyH_take (i := 0) (v := ?_) rfl (by kernel_rfl) (by kernel_rfl) (by kernel_rfl) (fun _ _ _ h => h) (Or.inl ⟨by rfl, ?_⟩) (by assumption) ?_
        rotate_left
        · intro w'' hSw; (try dsimp only at hSw); simp only [List.getElem_toArray, List.getElem_cons_succ, List.getElem_cons_zero]; (go_simp <;> with_reducible rfl)
        try simp only [Act.put, List.setIfInBounds_toArray, List.set_cons_zero, List.set_cons_succ, List.getElem_toArray, List.getElem_cons_succ, List.getElem_cons_zero]
        refine wpAnyH_take (i := 1) (v := ?_) rfl (by kernel_rfl) (by kernel_rfl) (by kernel_rfl) (fun _ _ _ h => h) (Or.inl ⟨by rfl, ?_⟩) (by assumption) ?_
        rotate_left
        · intro w'' hSw; (try dsimp only at hSw); simp only [List.getElem_toArray, List.getElem_cons_succ, List.getElem_cons_zero]; (go_simp <;> with_reducible rfl)
        try simp only [Act.put, List.setIfInBounds_toArray, List.set_cons_zero, List.set_cons_succ, List.getElem_toArray, List.getElem_cons_succ, List.getElem_cons_zero]
        refine wpAnyH_take (i := 2) (v := ?_) rfl (by kernel_rfl) (by kernel_rfl) (by kernel_rfl) (fun _ _ _ h => h) (Or.inl ⟨by rfl, ?_⟩) (by assumption) ?_
        rotate_left
        · intro w'' hSw; (try dsimp only at hSw); simp only [List.getElem_toArray, List.getElem_cons_succ, List.getElem_cons_zero]; (go_simp <;> with_reducible rfl)
        try simp only [Act.put, List.setIfInBounds_toArray, List.set_cons_zero, List.set_cons_succ, List.getElem_toArray, List.getElem_cons_succ, List.getElem_cons_zero]
        refine wpAnyH_take (i := 3) (v := ?_) rfl (by kernel_rfl) (by kernel_rfl) (by kernel_rfl) (fun _ _ _ h => h) (Or.inl ⟨by rfl, ?_⟩) (by assumption) ?_
        rotate_left
        · intro w'' hSw; (try dsimp only at hSw); simp only [List.getElem_toArray, List.getElem_cons_succ, List.getElem_cons_zero]; (go_simp <;> with_reducible rfl)
        try simp only [Act.put, List.setIfInBounds_toArray, List.set_cons_zero, List.set_cons_succ, List.getElem_toArray, List.getElem_cons_succ, List.getElem_cons_zero]
        refine wpAnyH_take (i := 4) (v := ?_) rfl (by kernel_rfl) (by kernel_rfl) (by kernel_rfl) (fun _ _ _ h => h) (Or.inl ⟨by rfl, ?_⟩) (by assumption) ?_
        rotate_left
        · intro w'' hSw; (try dsimp only at hSw); simp only [List.getElem_toArray, List.getElem_cons_succ, List.getElem_cons_zero]; (go_simp <;> with_reducible rfl)
        try simp only [Act.put, List.setIfInBounds_toArray, List.set_cons_zero, List.set_cons_succ, List.getElem_toArray, List.getElem_cons_succ, List.getElem_cons_zero]
        refine wpAnyH_take (i := 5) (v := ?_) rfl (by kernel_rfl) (by kernel_rfl) (by kernel_rfl) (fun _ _ _ h => h) (Or.inl ⟨by rfl, ?_⟩) (by assumption) ?_
        rotate_left
        · intro w'' hSw; (try dsimp only at hSw); simp only [List.getElem_toArray, List.getElem_cons_succ, List.getElem_cons_zero]; (go_simp <;> with_reducible rfl)
        try simp only [Act.put, List.setIfInBounds_toArray, List.set_cons_zero, List.set_cons_succ, List.getElem_toArray, List.getElem_cons_succ, List.getElem_cons_zero]
        refine wpAnyH_ready (rs := [6]) (by kernel_rfl) (by simp) ?_
        refine AllReadyH.cons rfl (fun K hK => ?_) AllReadyH.nil
        rw [if_pos (by rfl)]
        simp only [List.getElem_toArray, List.getElem_cons_succ, List.getElem_cons_zero]
        go_simp
        (go_at_call 94; refine (out1_calls e3 m _).mono ?_; rintro e w1 ⟨rfl, k1⟩)
        try go_wp2_with fail
        refine hK.out _ _ ?_ (fun hHeld2 => ?_)
        · (try dsimp only); exact ⟨hHeld1.1.trans k1, kept_cell k1 hHeld1.2.1, kept_cell k1 hHeld1.2.2.1, kept_cell k1 hHeld1.2.2.2.1, kept_cell k1 hHeld1.2.2.2.2.1, kept_cell k1 hHeld1.2.2.2.2.2.1, kept_cell k1 hHeld1.2.2.2.2.2.2.1, kept_cell k1 hHeld1.2.2.2.2.2.2.2.1, kept_cell k1 hHeld1.2.2.2.2.2.2.2.2⟩
        clear hK K hHeld1
        try simp only [Act.put, List.setIfInBounds_toArray, List.set_cons_zero, List.set_cons_succ, List.getElem_toArray, List.getElem_cons_succ, List.getElem_cons_zero]
        refine wpAnyH_take (i := 7) (v := ?_) rfl (by kernel_rfl) (by kernel_rfl) (by kernel_rfl) (fun _ _ _ h => h) (Or.inl ⟨by rfl, ?_⟩) (by assumption) ?_
        rotate_left
        · intro w'' hSw; (try dsimp only at hSw); simp only [List.getElem_toArray, List.getElem_cons_succ, List.getElem_cons_zero]; (go_simp <;> with_reducible rfl)
        try simp only [Act.put, List.setIfInBounds_toArray, List.set_cons_zero, List.set_cons_succ, List.getElem_toArray, List.getElem_cons_succ, List.getElem_cons_zero]
        refine wpAnyH_done (by kernel_rfl) ?_ _
        have HB1 := HB0.out.step hHeld2.1
        have kk := hHeld2.1
        clear hHeld2
        go_wp2
        go_roundg 2
        case measure => omega
        case rel => exact ⟨hk.trans kk, Or.inr (Or.inr (Or.inr (Or.inl ⟨rfl, by omega, Best.eq (b' := (pickE e0 e1 e2 e3 e4 e5 3)) (or_ge' (q := (pickE e0 e1 e2 e3 e4 e5 2)) hm.out (by have := HL.out; omega)) HB1⟩)))⟩
    · obtain ⟨m, hm0⟩ : ∃ m, m = (pickE e0 e1 e2 e3 e4 e5 3) := ⟨_, rfl⟩
      rw [← hm0] at HB
      have hm : Aside (m = (pickE e0 e1 e2 e3 e4 e5 3)) := hm0
      clear hm0
      obtain ⟨_, _, _, _, _, _, _, _, _, _, _, _, _, _, _, _, c0, c1, c2, c3, _⟩ := HS.out.step hk
      have HB0 : Aside (Best (w.heap.size + 1) w.heap.size m wr) := HB
      obtain ⟨m0, m1, m2, m3, _⟩ := HB
      by_cases h : e4.d < m.d
      · have hd := cmpI_lt h
        have HL : Aside (e4.d < m.d) := h
        clear h
        go_wp2
        refine wp_region_held_drew (S := (fun w' => Kept wr w' ∧ w'.cell? ⟨b, 16, none⟩ = some (.int .i64 e4.x) ∧ w'.cell? ⟨b, 17, none⟩ = some (.int .i64 e4.y) ∧ w'.cell? ⟨b, 18, none⟩ = some (.int .i64 e4.z) ∧ w'.cell? ⟨b, 19, none⟩ = some (.int .i64 e4.d) ∧ w'.cell? ⟨w.heap.size + 1, 0, none⟩ = some (.int .i64 m.x) ∧ w'.cell? ⟨w.heap.size + 1, 1, none⟩ = some (.int .i64 m.y) ∧ w'.cell? ⟨w.heap.size + 1, 2, none⟩ = some (.int .i64 m.z) ∧ w'.cell? ⟨w.heap.size + 1, 3, none⟩ = some (.int .i64 m.d))) (by kernel_rfl) ?_ (fun hHeld1 => ?_)
        · (try dsimp only); exact ⟨(Kept.refl _).drew, kept_cell (Kept.refl _).drew c0, kept_cell (Kept.refl _).drew c1, kept_cell (Kept.refl _).drew c2, kept_cell (Kept.refl _).drew c3, kept_cell (Kept.refl _).drew m0, kept_cell (Kept.refl _).drew m1, kept_cell (Kept.refl _).drew m2, kept_cell (Kept.refl _).drew m3⟩
        refine wpAnyH_take (i := 0) (v := ?_) rfl (by kernel_rfl) (by kernel_rfl) (by kernel_rfl) (fun _ _ _ h => h) (Or.inl ⟨by rfl, ?_⟩) (by assumption) ?_
        rotate_left
        · intro w'' hSw; (try dsimp only at hSw); simp only [List.getElem_toArray, List.getElem_cons_succ, List.getElem_cons_zero]; (go_simp <;> with_reducible rfl)
        try simp only [Act.put, List.setIfInBounds_toArray, List.set_cons_zero, List.set_cons_succ, List.getElem_toArray, List.getElem_cons_succ, List.getElem_cons_zero]
        refine wpAnyH_take (i := 1) (v := ?_) rfl (by kernel_rfl) (by kernel_rfl) (by kernel_rfl) (fun _ _ _ h => h) (Or.inl ⟨by rfl, ?_⟩) (by assumption) ?_
        rotate_left
        · intro w'' hSw; (try dsimp only at hSw); simp only [List.getElem_toArray, List.getElem_cons_succ, List.getElem_cons_zero]; (go_simp <;> with_reducible rfl)
        try simp only [Act.put, List.setIfInBounds_toArray, List.set_cons_zero, List.set_cons_succ, List.getElem_toArray, List.getElem_cons_succ, List.getElem_cons_zero]
        refine wpAnyH_take (i := 2) (v := ?_) rfl (by kernel_rfl) (by kernel_rfl) (by kernel_rfl) (fun _ _ _ h => h) (Or.inl ⟨by rfl, ?_⟩) (by assumption) ?_
        rotate_left
        · intro w'' hSw; (try dsimp only at hSw); simp only [List.getElem_toArray, List.getElem_cons_succ, List.getElem_cons_zero]; (go_simp <;> with_reducible rfl)
        try simp only [Act.put, List.setIfInBounds_toArray, List.set_cons_zero, List.set_cons_succ, List.getElem_toArray, List.getElem_cons_succ, List.getElem_cons_zero]
        refine wpAnyH_take (i := 3) (v := ?_) rfl (by kernel_rfl) (by kernel_rfl) (by kernel_rfl) (fun _ _ _ h => h) (Or.inl ⟨by rfl, ?_⟩) (by assumption) ?_
        rotate_left
        · intro w'' hSw; (try dsimp only at hSw); simp only [List.getElem_toArray, List.getElem_cons_succ, List.getElem_cons_zero]; (go_simp <;> with_reducible rfl)
        try simp only [Act.put, List.setIfInBounds_toArray, List.set_cons_zero, List.set_cons_succ, List.getElem_toArray, List.getElem_cons_succ, List.getElem_cons_zero]
        refine wpAnyH_take (i := 4) (v := ?_) rfl (by kernel_rfl) (by kernel_rfl) (by kernel_rfl) (fun _ _ _ h => h) (Or.inl ⟨by rfl, ?_⟩) (by assumption) ?_
        rotate_left
        · intro w'' hSw; (try dsimp only at hSw); simp only [List.getElem_toArray, List.getElem_cons_succ, List.getElem_cons_zero]; (go_simp <;> with_reducible rfl)
        try simp only [Act.put, List.setIfInBounds_toArray, List.set_cons_zero, List.set_cons_succ, List.getElem_toArray, List.getElem_cons_succ, List.getElem_cons_zero]
        refine wpAnyH_take (i := 5) (v := ?_) rfl (by kernel_rfl) (by kernel_rfl) (by kernel_rfl) (fun _ _ _ h => h) (Or.inl ⟨by rfl, ?_⟩) (by assumption) ?_
        rotate_left
        · intro w'' hSw; (try dsimp only at hSw); simp only [List.getElem_toArray, List.getElem_cons_succ, List.getElem_cons_zero]; (go_simp <;> with_reducible rfl)
        try simp only [Act.put, List.setIfInBounds_toArray, List.set_cons_zero, List.set_cons_succ, List.getElem_toArray, List.getElem_cons_succ, List.getElem_cons_zero]
        refine wpAnyH_ready (rs := [6]) (by kernel_rfl) (by simp) ?_
        refine AllReadyH.cons rfl (fun K hK => ?_) AllReadyH.nil
        rw [if_pos (by rfl)]
        simp only [List.getElem_toArray, List.getElem_cons_succ, List.getElem_cons_zero]
        go_simp
        (go_at_call 94; refine (out1_calls e4 m _).mono ?_; rintro e w1 ⟨rfl, k1⟩)
        try go_wp2_with fail
        refine hK.out _ _ ?_ (fun hHeld2 => ?_)
        · (try dsimp only); exact ⟨hHeld1.1.trans k1, kept_cell k1 hHeld1.2.1, kept_cell k1 hHeld1.2.2.1, kept_cell k1 hHeld1.2.2.2.1, kept_cell k1 hHeld1.2.2.2.2.1, kept_cell k1 hHeld1.2.2.2.2.2.1, kept_cell k1 hHeld1.2.2.2.2.2.2.1, kept_cell k1 hHeld1.2.2.2.2.2.2.2.1, kept_cell k1 hHeld1.2.2.2.2.2.2.2.2⟩
        clear hK K hHeld1
        try simp only [Act.put, List.setIfInBounds_toArray, List.set_cons_zero, List.set_cons_succ, List.getElem_toArray, List.getElem_cons_succ, List.getElem_cons_zero]
        refine wpAnyH_take (i := 7) (v := ?_) rfl (by kernel_rfl) (by kernel_rfl) (by kernel_rfl) (fun _ _ _ h => h) (Or.inl ⟨by rfl, ?_⟩) (by assumption) ?_
        rotate_left
        · intro w'' hSw; (try dsimp only at hSw); simp only [List.getElem_toArray, List.getElem_cons_succ, List.getElem_cons_zero]; (go_simp <;> with_reducible rfl)
        try simp only [Act.put, List.setIfInBounds_toArray, List.set_cons_zero, List.set_cons_succ, List.getElem_toArray, List.getElem_cons_succ, List.getElem_cons_zero]
        refine wpAnyH_done (by kernel_rfl) ?_ _
        have HB1 := HB0.out.step hHeld2.1
        obtain ⟨kk, c0, c1, c2, c3, m0, m1, m2, m3⟩ := hHeld2
        have HB2 : Aside (Best (w.heap.size + 1) w.heap.size m w1) := HB1
        obtain ⟨_, _, _, _, f0, f1, f2, f3, _⟩ := HB1
        go_wp2
        go_roundg 1
        case measure => omega
        case rel => exact ⟨kept_set4 (hk.trans kk) (by omega) _ _ _ _, Or.inr (Or.inr (Or.inr (Or.inr (Or.inl ⟨rfl, by omega, Best.eq (b' := (pickE e0 e1 e2 e3 e4 e5 4)) (or_lt' (q := (pickE e0 e1 e2 e3 e4 e5 3)) hm.out HL.out) (HB2.out.put hn e4)⟩))))⟩
      · have hd := cmpI_ge h
        have HL : Aside (¬ e4.d < m.d) := h
        clear h
        go_wp2
        refine wp_region_held_drew (S := (fun w' => Kept wr w' ∧ w'.cell? ⟨b, 16, none⟩ = some (.int .i64 e4.x) ∧ w'.cell? ⟨b, 17, none⟩ = some (.int .i64 e4.y) ∧ w'.cell? ⟨b, 18, none⟩ = some (.int .i64 e4.z) ∧ w'.cell? ⟨b, 19, none⟩ = some (.int .i64 e4.d) ∧ w'.cell? ⟨w.heap.size + 1, 0, none⟩ = some (.int .i64 m.x) ∧ w'.cell? ⟨w.heap.size + 1, 1, none⟩ = some (.int .i64 m.y) ∧ w'.cell? ⟨w.heap.size + 1, 2, none⟩ = some (.int .i64 m.z) ∧ w'.cell? ⟨w.heap.size + 1, 3, none⟩ = some (.int .i64 m.d))) (by kernel_rfl) ?_ (fun hHeld1 => ?_)
        · (try dsimp only); exact ⟨(Kept.refl _).drew, kept_cell (Kept.refl _).drew c0, kept_cell (Kept.refl _).drew c1, kept_cell (Kept.refl _).drew c2, kept_cell (Kept.refl _).drew c3, kept_cell (Kept.refl _).drew m0, kept_cell (Kept.refl _).drew m1, kept_cell (Kept.refl _).drew m2, kept_cell (Kept.refl _).drew m3⟩
        refine wpAnyH_take (i := 0) (v := ?_) rfl (by kernel_rfl) (by kernel_rfl) (by kernel_rfl) (fun _ _ _ h => h) (Or.inl ⟨by rfl, ?_⟩) (by assumption) ?_
        rotate_left
        · intro w'' hSw; (try dsimp only at hSw); simp only [List.getElem_toArray, List.getElem_cons_succ, List.getElem_cons_zero]; (go_simp <;> with_reducible rfl)
        try simp only [Act.put, List.setIfInBounds_toArray, List.set_cons_zero, List.set_cons_succ, List.getElem_toArray, List.getElem_cons_succ, List.getElem_cons_zero]
        refine wpAnyH_take (i := 1) (v := ?_) rfl (by kernel_rfl) (by kernel_rfl) (by kernel_rfl) (fun _ _ _ h => h) (Or.inl ⟨by rfl, ?_⟩) (by assumption) ?_
        rotate_left
        · intro w'' hSw; (try dsimp only at hSw); simp only [List.getElem_toArray, List.getElem_cons_succ, List.getElem_cons_zero]; (go_simp <;> with_reducible rfl)
        try simp only [Act.put, List.setIfInBounds_toArray, List.set_cons_zero, List.set_cons_succ, List.getElem_toArray, List.getElem_cons_succ, List.getElem_cons_zero]
        refine wpAnyH_take (i := 2) (v := ?_) rfl (by kernel_rfl) (by kernel_rfl) (by kernel_rfl) (fun _ _ _ h => h) (Or.inl ⟨by rfl, ?_⟩) (by assumption) ?_
        rotate_left
        · intro w'' hSw; (try dsimp only at hSw); simp only [List.getElem_toArray, List.getElem_cons_succ, List.getElem_cons_zero]; (go_simp <;> with_reducible rfl)
        try simp only [Act.put, List.setIfInBounds_toArray, List.set_cons_zero, List.set_cons_succ, List.getElem_toArray, List.getElem_cons_succ, List.getElem_cons_zero]
        refine wpAnyH_take (i := 3) (v := ?_) rfl (by kernel_rfl) (by kernel_rfl) (by kernel_rfl) (fun _ _ _ h => h) (Or.inl ⟨by rfl, ?_⟩) (by assumption) ?_
        rotate_left
        · intro w'' hSw; (try dsimp only at hSw); simp only [List.getElem_toArray, List.getElem_cons_succ, List.getElem_cons_zero]; (go_simp <;> with_reducible rfl)
        try simp only [Act.put, List.setIfInBounds_toArray, List.set_cons_zero, List.set_cons_succ, List.getElem_toArray, List.getElem_cons_succ, List.getElem_cons_zero]
        refine wpAnyH_take (i := 4) (v := ?_) rfl (by kernel_rfl) (by kernel_rfl) (by kernel_rfl) (fun _ _ _ h => h) (Or.inl ⟨by rfl, ?_⟩) (by assumption) ?_
        rotate_left
        · intro w'' hSw; (try dsimp only at hSw); simp only [List.getElem_toArray, List.getElem_cons_succ, List.getElem_cons_zero]; (go_simp <;> with_reducible rfl)
        try simp only [Act.put, List.setIfInBounds_toArray, List.set_cons_zero, List.set_cons_succ, List.getElem_toArray, List.getElem_cons_succ, List.getElem_cons_zero]
        refine wpAnyH_take (i := 5) (v := ?_) rfl (by kernel_rfl) (by kernel_rfl) (by kernel_rfl) (fun _ _ _ h => h) (Or.inl ⟨by rfl, ?_⟩) (by assumption) ?_
        rotate_left
        · intro w'' hSw; (try dsimp only at hSw); simp only [List.getElem_toArray, List.getElem_cons_succ, List.getElem_cons_zero]; (go_simp <;> with_reducible rfl)
        try simp only [Act.put, List.setIfInBounds_toArray, List.set_cons_zero, List.set_cons_succ, List.getElem_toArray, List.getElem_cons_succ, List.getElem_cons_zero]
        refine wpAnyH_ready (rs := [6]) (by kernel_rfl) (by simp) ?_
        refine AllReadyH.cons rfl (fun K hK => ?_) AllReadyH.nil
        rw [if_pos (by rfl)]
        simp only [List.getElem_toArray, List.getElem_cons_succ, List.getElem_cons_zero]
        go_simp
        (go_at_call 94; refine (out1_calls e4 m _).mono ?_; rintro e w1 ⟨rfl, k1⟩)
        try go_wp2_with fail
        refine hK.out _ _ ?_ (fun hHeld2 => ?_)
        · (try dsimp only); exact ⟨hHeld1.1.trans k1, kept_cell k1 hHeld1.2.1, kept_cell k1 hHeld1.2.2.1, kept_cell k1 hHeld1.2.2.2.1, kept_cell k1 hHeld1.2.2.2.2.1, kept_cell k1 hHeld1.2.2.2.2.2.1, kept_cell k1 hHeld1.2.2.2.2.2.2.1, kept_cell k1 hHeld1.2.2.2.2.2.2.2.1, kept_cell k1 hHeld1.2.2.2.2.2.2.2.2⟩
        clear hK K hHeld1
        try simp only [Act.put, List.setIfInBounds_toArray, List.set_cons_zero, List.set_cons_succ, List.getElem_toArray, List.getElem_cons_succ, List.getElem_cons_zero]
        refine wpAnyH_take (i := 7) (v := ?_) rfl (by kernel_rfl) (by kernel_rfl) (by kernel_rfl) (fun _ _ _ h => h) (Or.inl ⟨by rfl, ?_⟩) (by assumption) ?_
        rotate_left
        · intro w'' hSw; (try dsimp only at hSw); simp only [List.getElem_toArray, List.getElem_cons_succ, List.getElem_cons_zero]; (go_simp <;> with_reducible rfl)
        try simp only [Act.put, List.setIfInBounds_toArray, List.set_cons_zero, List.set_cons_succ, List.getElem_toArray, List.getElem_cons_succ, List.getElem_cons_zero]
        refine wpAnyH_done (by kernel_rfl) ?_ _
        have HB1 := HB0.out.step hHeld2.1
        have kk := hHeld2.1
        clear hHeld2
        go_wp2
        go_roundg 1
        case measure => omega
        case rel => exact ⟨hk.trans kk, Or.inr (Or.inr (Or.inr (Or.inr (Or.inl ⟨rfl, by omega, Best.eq (b' := (pickE e0 e1 e2 e3 e4 e5 4)) (or_ge' (q := (pickE e0 e1 e2 e3 e4 e5 3)) hm.out (by have := HL.out; omega)) HB1⟩))))⟩
    · obtain ⟨m, hm0⟩ : ∃ m, m = (pickE e0 e1 e2 e3 e4 e5 4) := ⟨_, rfl⟩
      rw [← hm0] at HB
      have hm : Aside (m = (pickE e0 e1 e2 e3 e4 e5 4)) := hm0
      clear hm0
      obtain ⟨_, _, _, _, _, _, _, _, _, _, _, _, _, _, _, _, _, _, _, _, c0, c1, c2, c3⟩ := HS.out.step hk
      have HB0 : Aside (Best (w.heap.size + 1) w.heap.size m wr) := HB
      obtain ⟨m0, m1, m2, m3, _⟩ := HB
      by_cases h : e5.d < m.d
      · have hd := cmpI_lt h
        have HL : Aside (e5.d < m.d) := h
        clear h
        go_wp2
        refine wp_region_held_drew (S := (fun w' => Kept wr w' ∧ w'.cell? ⟨b, 20, none⟩ = some (.int .i64 e5.x) ∧ w'.cell? ⟨b, 21, none⟩ = some (.int .i64 e5.y) ∧ w'.cell? ⟨b, 22, none⟩ = some (.int .i64 e5.z) ∧ w'.cell? ⟨b, 23, none⟩ = some (.int .i64 e5.d) ∧ w'.cell? ⟨w.heap.size + 1, 0, none⟩ = some (.int .i64 m.x) ∧ w'.cell? ⟨w.heap.size + 1, 1, none⟩ = some (.int .i64 m.y) ∧ w'.cell? ⟨w.heap.size + 1, 2, none⟩ = some (.int .i64 m.z) ∧ w'.cell? ⟨w.heap.size + 1, 3, none⟩ = some (.int .i64 m.d))) (by kernel_rfl) ?_ (fun hHeld1 => ?_)
        · (try dsimp only); exact ⟨(Kept.refl _).drew, kept_cell (Kept.refl _).drew c0, kept_cell (Kept.refl _).drew c1, kept_cell (Kept.refl _).drew c2, kept_cell (Kept.refl _).drew c3, kept_cell (Kept.refl _).drew m0, kept_cell (Kept.refl _).drew m1, kept_cell (Kept.refl _).drew m2, kept_cell (Kept.refl _).drew m3⟩
        refine wpAnyH_take (i := 0) (v := ?_) rfl (by kernel_rfl) (by kernel_rfl) (by kernel_rfl) (fun _ _ _ h => h) (Or.inl ⟨by rfl, ?_⟩) (by assumption) ?_
        rotate_left
        · intro w'' hSw; (try dsimp only at hSw); simp only [List.getElem_toArray, List.getElem_cons_succ, List.getElem_cons_zero]; (go_simp <;> with_reducible rfl)
        try simp only [Act.put, List.setIfInBounds_toArray, List.set_cons_zero, List.set_cons_succ, List.getElem_toArray, List.getElem_cons_succ, List.getElem_cons_zero]
        refine wpAnyH_take (i := 1) (v := ?_) rfl (by kernel_rfl) (by kernel_rfl) (by kernel_rfl) (fun _ _ _ h => h) (Or.inl ⟨by rfl, ?_⟩) (by assumption) ?_
        rotate_left
        · intro w'' hSw; (try dsimp only at hSw); simp only [List.getElem_toArray, List.getElem_cons_succ, List.getElem_cons_zero]; (go_simp <;> with_reducible rfl)
        try simp only [Act.put, List.setIfInBounds_toArray, List.set_cons_zero, List.set_cons_succ, List.getElem_toArray, List.getElem_cons_succ, List.getElem_cons_zero]
        refine wpAnyH_take (i := 2) (v := ?_) rfl (by kernel_rfl) (by kernel_rfl) (by kernel_rfl) (fun _ _ _ h => h) (Or.inl ⟨by rfl, ?_⟩) (by assumption) ?_
        rotate_left
        · intro w'' hSw; (try dsimp only at hSw); simp only [List.getElem_toArray, List.getElem_cons_succ, List.getElem_cons_zero]; (go_simp <;> with_reducible rfl)
        try simp only [Act.put, List.setIfInBounds_toArray, List.set_cons_zero, List.set_cons_succ, List.getElem_toArray, List.getElem_cons_succ, List.getElem_cons_zero]
        refine wpAnyH_take (i := 3) (v := ?_) rfl (by kernel_rfl) (by kernel_rfl) (by kernel_rfl) (fun _ _ _ h => h) (Or.inl ⟨by rfl, ?_⟩) (by assumption) ?_
        rotate_left
        · intro w'' hSw; (try dsimp only at hSw); simp only [List.getElem_toArray, List.getElem_cons_succ, List.getElem_cons_zero]; (go_simp <;> with_reducible rfl)
        try simp only [Act.put, List.setIfInBounds_toArray, List.set_cons_zero, List.set_cons_succ, List.getElem_toArray, List.getElem_cons_succ, List.getElem_cons_zero]
        refine wpAnyH_take (i := 4) (v := ?_) rfl (by kernel_rfl) (by kernel_rfl) (by kernel_rfl) (fun _ _ _ h => h) (Or.inl ⟨by rfl, ?_⟩) (by assumption) ?_
        rotate_left
        · intro w'' hSw; (try dsimp only at hSw); simp only [List.getElem_toArray, List.getElem_cons_succ, List.getElem_cons_zero]; (go_simp <;> with_reducible rfl)
        try simp only [Act.put, List.setIfInBounds_toArray, List.set_cons_zero, List.set_cons_succ, List.getElem_toArray, List.getElem_cons_succ, List.getElem_cons_zero]
        refine wpAnyH_take (i := 5) (v := ?_) rfl (by kernel_rfl) (by kernel_rfl) (by kernel_rfl) (fun _ _ _ h => h) (Or.inl ⟨by rfl, ?_⟩) (by assumption) ?_
        rotate_left
        · intro w'' hSw; (try dsimp only at hSw); simp only [List.getElem_toArray, List.getElem_cons_succ, List.getElem_cons_zero]; (go_simp <;> with_reducible rfl)
        try simp only [Act.put, List.setIfInBounds_toArray, List.set_cons_zero, List.set_cons_succ, List.getElem_toArray, List.getElem_cons_succ, List.getElem_cons_zero]
        refine wpAnyH_ready (rs := [6]) (by kernel_rfl) (by simp) ?_
        refine AllReadyH.cons rfl (fun K hK => ?_) AllReadyH.nil
        rw [if_pos (by rfl)]
        simp only [List.getElem_toArray, List.getElem_cons_succ, List.getElem_cons_zero]
        go_simp
        (go_at_call 94; refine (out1_calls e5 m _).mono ?_; rintro e w1 ⟨rfl, k1⟩)
        try go_wp2_with fail
        refine hK.out _ _ ?_ (fun hHeld2 => ?_)
        · (try dsimp only); exact ⟨hHeld1.1.trans k1, kept_cell k1 hHeld1.2.1, kept_cell k1 hHeld1.2.2.1, kept_cell k1 hHeld1.2.2.2.1, kept_cell k1 hHeld1.2.2.2.2.1, kept_cell k1 hHeld1.2.2.2.2.2.1, kept_cell k1 hHeld1.2.2.2.2.2.2.1, kept_cell k1 hHeld1.2.2.2.2.2.2.2.1, kept_cell k1 hHeld1.2.2.2.2.2.2.2.2⟩
        clear hK K hHeld1
        try simp only [Act.put, List.setIfInBounds_toArray, List.set_cons_zero, List.set_cons_succ, List.getElem_toArray, List.getElem_cons_succ, List.getElem_cons_zero]
        refine wpAnyH_take (i := 7) (v := ?_) rfl (by kernel_rfl) (by kernel_rfl) (by kernel_rfl) (fun _ _ _ h => h) (Or.inl ⟨by rfl, ?_⟩) (by assumption) ?_
        rotate_left
        · intro w'' hSw; (try dsimp only at hSw); simp only [List.getElem_toArray, List.getElem_cons_succ, List.getElem_cons_zero]; (go_simp <;> with_reducible rfl)
        try simp only [Act.put, List.setIfInBounds_toArray, List.set_cons_zero, List.set_cons_succ, List.getElem_toArray, List.getElem_cons_succ, List.getElem_cons_zero]
        refine wpAnyH_done (by kernel_rfl) ?_ _
        have HB1 := HB0.out.step hHeld2.1
        obtain ⟨kk, c0, c1, c2, c3, m0, m1, m2, m3⟩ := hHeld2
        have HB2 : Aside (Best (w.heap.size + 1) w.heap.size m w1) := HB1
        obtain ⟨_, _, _, _, f0, f1, f2, f3, _⟩ := HB1
        go_wp2
        go_roundg 0
        case measure => omega
        case rel => exact ⟨kept_set4 (hk.trans kk) (by omega) _ _ _ _, Or.inr (Or.inr (Or.inr (Or.inr (Or.inr (⟨rfl, by omega, Best.eq (b' := (pickE e0 e1 e2 e3 e4 e5 5)) (or_lt' (q := (pickE e0 e1 e2 e3 e4 e5 4)) hm.out HL.out) (HB2.out.put hn e5)⟩)))))⟩
      · have hd := cmpI_ge h
        have HL : Aside (¬ e5.d < m.d) := h
        clear h
        go_wp2
        refine wp_region_held_drew (S := (fun w' => Kept wr w' ∧ w'.cell? ⟨b, 20, none⟩ = some (.int .i64 e5.x) ∧ w'.cell? ⟨b, 21, none⟩ = some (.int .i64 e5.y) ∧ w'.cell? ⟨b, 22, none⟩ = some (.int .i64 e5.z) ∧ w'.cell? ⟨b, 23, none⟩ = some (.int .i64 e5.d) ∧ w'.cell? ⟨w.heap.size + 1, 0, none⟩ = some (.int .i64 m.x) ∧ w'.cell? ⟨w.heap.size + 1, 1, none⟩ = some (.int .i64 m.y) ∧ w'.cell? ⟨w.heap.size + 1, 2, none⟩ = some (.int .i64 m.z) ∧ w'.cell? ⟨w.heap.size + 1, 3, none⟩ = some (.int .i64 m.d))) (by kernel_rfl) ?_ (fun hHeld1 => ?_)
        · (try dsimp only); exact ⟨(Kept.refl _).drew, kept_cell (Kept.refl _).drew c0, kept_cell (Kept.refl _).drew c1, kept_cell (Kept.refl _).drew c2, kept_cell (Kept.refl _).drew c3, kept_cell (Kept.refl _).drew m0, kept_cell (Kept.refl _).drew m1, kept_cell (Kept.refl _).drew m2, kept_cell (Kept.refl _).drew m3⟩
        refine wpAnyH_take (i := 0) (v := ?_) rfl (by kernel_rfl) (by kernel_rfl) (by kernel_rfl) (fun _ _ _ h => h) (Or.inl ⟨by rfl, ?_⟩) (by assumption) ?_
        rotate_left
        · intro w'' hSw; (try dsimp only at hSw); simp only [List.getElem_toArray, List.getElem_cons_succ, List.getElem_cons_zero]; (go_simp <;> with_reducible rfl)
        try simp only [Act.put, List.setIfInBounds_toArray, List.set_cons_zero, List.set_cons_succ, List.getElem_toArray, List.getElem_cons_succ, List.getElem_cons_zero]
        refine wpAnyH_take (i := 1) (v := ?_) rfl (by kernel_rfl) (by kernel_rfl) (by kernel_rfl) (fun _ _ _ h => h) (Or.inl ⟨by rfl, ?_⟩) (by assumption) ?_
        rotate_left
        · intro w'' hSw; (try dsimp only at hSw); simp only [List.getElem_toArray, List.getElem_cons_succ, List.getElem_cons_zero]; (go_simp <;> with_reducible rfl)
        try simp only [Act.put, List.setIfInBounds_toArray, List.set_cons_zero, List.set_cons_succ, List.getElem_toArray, List.getElem_cons_succ, List.getElem_cons_zero]
        refine wpAnyH_take (i := 2) (v := ?_) rfl (by kernel_rfl) (by kernel_rfl) (by kernel_rfl) (fun _ _ _ h => h) (Or.inl ⟨by rfl, ?_⟩) (by assumption) ?_
        rotate_left
        · intro w'' hSw; (try dsimp only at hSw); simp only [List.getElem_toArray, List.getElem_cons_succ, List.getElem_cons_zero]; (go_simp <;> with_reducible rfl)
        try simp only [Act.put, List.setIfInBounds_toArray, List.set_cons_zero, List.set_cons_succ, List.getElem_toArray, List.getElem_cons_succ, List.getElem_cons_zero]
        refine wpAnyH_take (i := 3) (v := ?_) rfl (by kernel_rfl) (by kernel_rfl) (by kernel_rfl) (fun _ _ _ h => h) (Or.inl ⟨by rfl, ?_⟩) (by assumption) ?_
        rotate_left
        · intro w'' hSw; (try dsimp only at hSw); simp only [List.getElem_toArray, List.getElem_cons_succ, List.getElem_cons_zero]; (go_simp <;> with_reducible rfl)
        try simp only [Act.put, List.setIfInBounds_toArray, List.set_cons_zero, List.set_cons_succ, List.getElem_toArray, List.getElem_cons_succ, List.getElem_cons_zero]
        refine wpAnyH_take (i := 4) (v := ?_) rfl (by kernel_rfl) (by kernel_rfl) (by kernel_rfl) (fun _ _ _ h => h) (Or.inl ⟨by rfl, ?_⟩) (by assumption) ?_
        rotate_left
        · intro w'' hSw; (try dsimp only at hSw); simp only [List.getElem_toArray, List.getElem_cons_succ, List.getElem_cons_zero]; (go_simp <;> with_reducible rfl)
        try simp only [Act.put, List.setIfInBounds_toArray, List.set_cons_zero, List.set_cons_succ, List.getElem_toArray, List.getElem_cons_succ, List.getElem_cons_zero]
        refine wpAnyH_take (i := 5) (v := ?_) rfl (by kernel_rfl) (by kernel_rfl) (by kernel_rfl) (fun _ _ _ h => h) (Or.inl ⟨by rfl, ?_⟩) (by assumption) ?_
        rotate_left
        · intro w'' hSw; (try dsimp only at hSw); simp only [List.getElem_toArray, List.getElem_cons_succ, List.getElem_cons_zero]; (go_simp <;> with_reducible rfl)
        try simp only [Act.put, List.setIfInBounds_toArray, List.set_cons_zero, List.set_cons_succ, List.getElem_toArray, List.getElem_cons_succ, List.getElem_cons_zero]
        refine wpAnyH_ready (rs := [6]) (by kernel_rfl) (by simp) ?_
        refine AllReadyH.cons rfl (fun K hK => ?_) AllReadyH.nil
        rw [if_pos (by rfl)]
        simp only [List.getElem_toArray, List.getElem_cons_succ, List.getElem_cons_zero]
        go_simp
        (go_at_call 94; refine (out1_calls e5 m _).mono ?_; rintro e w1 ⟨rfl, k1⟩)
        try go_wp2_with fail
        refine hK.out _ _ ?_ (fun hHeld2 => ?_)
        · (try dsimp only); exact ⟨hHeld1.1.trans k1, kept_cell k1 hHeld1.2.1, kept_cell k1 hHeld1.2.2.1, kept_cell k1 hHeld1.2.2.2.1, kept_cell k1 hHeld1.2.2.2.2.1, kept_cell k1 hHeld1.2.2.2.2.2.1, kept_cell k1 hHeld1.2.2.2.2.2.2.1, kept_cell k1 hHeld1.2.2.2.2.2.2.2.1, kept_cell k1 hHeld1.2.2.2.2.2.2.2.2⟩
        clear hK K hHeld1
        try simp only [Act.put, List.setIfInBounds_toArray, List.set_cons_zero, List.set_cons_succ, List.getElem_toArray, List.getElem_cons_succ, List.getElem_cons_zero]
        refine wpAnyH_take (i := 7) (v := ?_) rfl (by kernel_rfl) (by kernel_rfl) (by kernel_rfl) (fun _ _ _ h => h) (Or.inl ⟨by rfl, ?_⟩) (by assumption) ?_
        rotate_left
        · intro w'' hSw; (try dsimp only at hSw); simp only [List.getElem_toArray, List.getElem_cons_succ, List.getElem_cons_zero]; (go_simp <;> with_reducible rfl)
        try simp only [Act.put, List.setIfInBounds_toArray, List.set_cons_zero, List.set_cons_succ, List.getElem_toArray, List.getElem_cons_succ, List.getElem_cons_zero]
        refine wpAnyH_done (by kernel_rfl) ?_ _
        have HB1 := HB0.out.step hHeld2.1
        have kk := hHeld2.1
        clear hHeld2
        go_wp2
        go_roundg 0
        case measure => omega
        case rel => exact ⟨hk.trans kk, Or.inr (Or.inr (Or.inr (Or.inr (Or.inr (⟨rfl, by omega, Best.eq (b' := (pickE e0 e1 e2 e3 e4 e5 5)) (or_ge' (q := (pickE e0 e1 e2 e3 e4 e5 4)) hm.out (by have := HL.out; omega)) HB1⟩)))))⟩
    · obtain ⟨m, hm0⟩ : ∃ m, m = (pickE e0 e1 e2 e3 e4 e5 5) := ⟨_, rfl⟩
      rw [← hm0] at HB
      have hm : Aside (m = (pickE e0 e1 e2 e3 e4 e5 5)) := hm0
      clear hm0
      obtain ⟨m0, m1, m2, m3, _, _, _, _, r0, r1, r2, r3, g0, g1, g2, g3⟩ := HB
      go_wp2
      obtain ⟨z0, z1, z2, z3⟩ := set4_of (v0 := .int .i64 m.x) (v1 := .int .i64 m.y) (v2 := .int .i64 m.z) (v3 := .int .i64 m.d) r0 r1 r2 r3
      exact bodyPost_ret (v := .agg #[.int .i64 (m.x), .int .i64 (m.y), .int .i64 (m.z), .int .i64 (m.d)]) (by simp [results, Try.results93, go_sem, z0, z1, z2, z3]) rfl ⟨by rw [hm.out], kept_set4 hk (by omega) _ _ _ _⟩
end Go.Proofs.Ythhpcfnoiooopaa
