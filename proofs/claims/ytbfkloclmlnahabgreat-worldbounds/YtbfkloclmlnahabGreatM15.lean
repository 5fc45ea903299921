/- gyrekeep.WorldBounds: true, whatever is given. · How bodies and touches that came in lie in memory. -/
import Derived.Test.YtbfkloclmlnahabGreatM14
import Derived.Test.YtbfkloclmlnahabGreatM6
import Derived.Lib.SmallJoins
import Derived.Carry
import Derived.Deep.Slices
import Derived.WalkKit
import Derived.ProofKit
import Derived.OpenShut
open List renaming getElem_toArray → zqa, getElem_cons_succ → zqb, getElem_cons_zero → zqc, setIfInBounds_toArray → zqd, set_cons_zero → zqe, set_cons_succ → zqf, getElem?_toArray → zqg, getElem?_cons_succ → zqh, getElem?_cons_zero → zqi
namespace Go.Proofs.YtbfkloclmlnahabGreat
open Go.ChangeShapes Go.WideShapes Go.ChangeAt Go.RowKit
set_option linter.unusedVariables false
set_option linter.unusedSimpArgs false

theorem eql_vec {ρ : Operand → Value} {op : Oper} {w : World} {j k : Nat} {x y z x' y' z' : Int} (ho : op.op = .binOp .eql 24 (.tmp j) (.tmp k) 24) (hj : ρ (.tmp j) = .agg #[.int .i64 x, .int .i64 y, .int .i64 z]) (hk : ρ (.tmp k) = .agg #[.int .i64 x', .int .i64 y', .int .i64 z']) : (execOp ρ op).run Tryz.prog w = .ok (.value (.bool (decide (x = x' ∧ y = y' ∧ z = z')))) w := by
  simp only [execOp, ho, hj, hk]
  by_cases h1 : x = x'
  · subst h1
    by_cases h2 : y = y'
    · subst h2
      by_cases h3 : z = z'
      · subst h3
        go_simp <;> simp
      · have : (z == z') = false := by simpa using h3
        go_simp <;> simp [h3]
    · have : (y == y') = false := by simpa using h2
      go_simp <;> simp [h2]
  · have : (x == x') = false := by simpa using h1
    go_simp <;> simp [h1]
theorem wrap_one {j : Nat} (h : j ≤ 1000000) : IntKind.i64.wrap ((j : Int) + 1) = (j : Int) + 1 := by
  rw [IntKind.wrap_i64]; omega
theorem BodiesAt.onlyD {D : List Nat} {w w' : World} {a : Option Addr} {n : Nat} {B : Nat → Bd} (h : BodiesAt w a n B) (o : Only D w w') (s : ∀ g o s, a = some ⟨g, o, s⟩ → g ∉ D) : BodiesAt w' a n B := fun j hj => by
  obtain ⟨g, f, e, hc⟩ := h j hj
  exact ⟨g, f, e, fun k hk => cell_only o (hc k hk) (s g f none e)⟩
/-- A world of bodies within their bounds. -/
structure BW (w4 : World) (x : Nat) (c : Wc) (m t : Nat) (L : Nat → Bd) (st : Int) (g : Nat) (a : Option Addr) (cap : Nat) (B : Nat → Bd) (M : List (Int × Bx)) (D : List Nat) (wr : World) : Prop where
  ww : WW [] w4 x g c a m cap t (m : Int) st B M D wr
  sl : SlArg a m cap
  ids : ∀ j, (B j).id = (NB L m j).id
  inv : ∀ j, j < m → InV (B j) ∧ Same (NB L m j) (B j)
theorem BW.first {w4 : World} {x g : Nat} {c : Wc} {a : Option Addr} {m cap t : Nat} {L : Nat → Bd} {M : List (Int × Bx)} {D : List Nat} {wr : World} (h : FW w4 x g c a m cap t L M D wr) (hf : ∀ j, j < m → rightW (L j) = 0) : BW w4 x c m t L 0 g a cap (NB L m) M D wr :=
  ⟨h.ww, h.row.slarg, fun _ => rfl, fun j hj => ⟨by rw [NB_lt L hj]; exact (rightW_parts (hf j hj)).2.1, Same.refl _⟩⟩
theorem BW.keep {w4 : World} {x g : Nat} {c : Wc} {a : Option Addr} {m cap t : Nat} {L : Nat → Bd} {st : Int} {B : Nat → Bd} {M : List (Int × Bx)} {D : List Nat} {wr w' : World} (h : BW w4 x c m t L st g a cap B M D wr) (o : Only [] wr w') : BW w4 x c m t L st g a cap B M D w' := ⟨h.ww.keep o, h.sl, h.ids, h.inv⟩
theorem NB_in (L : Nat → Bd) (m j : Nat) (hm : m ≤ 60) : In64S (NB L m j).id := by
  unfold NB
  split
  · exact in64_one (by show (0 : Int) ≤ (j : Int) + 1; omega) (by show (j : Int) + 1 ≤ 10000000; omega)
  · exact rfl
theorem BW.rises {w4 : World} {x g : Nat} {c : Wc} {a : Option Addr} {m cap t : Nat} {L : Nat → Bd} {st : Int} {B : Nat → Bd} {M : List (Int × Bx)} {D : List Nat} {wr : World} (h : BW w4 x c m t L st g a cap B M D wr) : Rises B m := fun i k hi hk => by
  rw [h.ids, h.ids, NB_id L (show i < m by omega), NB_id L hk]; omega
theorem BW.step {w4 : World} {x g g' : Nat} {c : Wc} {a a' : Option Addr} {m cap cap' t : Nat} {L : Nat → Bd} {st : Int} {B : Nat → Bd} {M M' : List (Int × Bx)} {D D' : List Nat} {wr w' : World} (h : BW w4 x c m t L st g a cap B M D wr) (k : WW (x :: g :: D) wr x g' c a' m cap' t (m : Int) (st + 1) (stepW c B m M) M' D' w') (hs : SlArg a' m cap') : BW w4 x c m t L (st + 1) g' a' cap' (stepW c B m M) M' D' w' :=
  ⟨h.ww.back k, hs, fun j => by rw [stepW_id]; exact h.ids j, fun j hj => by
    have h1 := stepT_one c B m (touchesOf c B m M) hj (h.inv j hj).1
    exact ⟨h1.2.1, (h.inv j hj).2.trans h1.1⟩⟩
/-- What one step made of one body, as the law asks it. -/
structure OneB (j : Nat) (l p q : Bd) : Prop where
  id : q.id = (j : Int) + 1
  sh : q.kd = l.kd ∧ q.sx = l.sx ∧ q.sy = l.sy ∧ q.sz = l.sz
  ow : q.ow = l.ow
  at' : cl 65536000 q.ax = q.ax ∧ cl 65536000 q.ay = q.ay ∧ cl 65536000 q.az = q.az
  sp : cl 6553600 q.vx = q.vx ∧ cl 6553600 q.vy = q.vy ∧ cl 6553600 q.vz = q.vz
  still : q.ms = 0 → ¬ (q.vx = p.vx ∧ q.vy = p.vy ∧ q.vz = p.vz) → ¬ (cl 65536000 (add p.ax p.vx) = add p.ax p.vx ∧ cl 65536000 (add p.ay p.vy) = add p.ay p.vy ∧ cl 65536000 (add p.az p.vz) = add p.az p.vz)
theorem cl_of {m x : Int} (h : -m ≤ x ∧ x ≤ m) : cl m x = x := cl_in (by omega) (by omega)
theorem BW.one {w4 : World} {x g : Nat} {c : Wc} {a : Option Addr} {m cap t : Nat} {L : Nat → Bd} {st : Int} {B : Nat → Bd} {M : List (Int × Bx)} {D : List Nat} {wr : World} (h : BW w4 x c m t L st g a cap B M D wr) {j : Nat} (hj : j < m) : OneB j (L j) (B j) (stepW c B m M j) := by
  obtain ⟨h1, h2, h3, h4⟩ := stepT_one c B m (touchesOf c B m M) hj (h.inv j hj).1
  have h5 := (h.inv j hj).2.trans h1
  rw [NB_lt L hj] at h5
  obtain ⟨i1, i2, i3, i4, i5, i6, i7, i8, i9, i10, i11⟩ := h5
  refine ⟨i1, ⟨i3, i4, i5, i6⟩, i2, ⟨cl_of h3.1, cl_of h3.2.1, cl_of h3.2.2⟩, ⟨cl_of h2.1, cl_of h2.2.1, cl_of h2.2.2⟩, fun hm hv hc => hv ?_⟩
  have hms : (B j).ms ≤ 0 := by
    have e := h1.2.2.2.2.2.2.2.2.2.1
    have e2 : (stepT c B m (touchesOf c B m M) j).ms = 0 := hm
    omega
  exact h4 hms hc.1 hc.2.1 hc.2.2
set_option maxRecDepth 1000000 in
set_option maxHeartbeats 40000000 in
theorem bounds_calls (a : Option Addr) (n c : Nat) (B0 : Nat → Bd) (f1 f2 f3 pa pb pc ps : Int) (w : World) (h : BodiesAt w a n B0) :
    Calls Tryz.prog 3 #[.slice a n c, .agg #[.int .i64 f1, .int .i64 f2, .int .i64 f3], .int .i64 pa, .int .i64 pb, .int .i64 pc, .int .i64 ps] w fun e w' => e = .returned (.bool true) ∧ Only [] w w' := by
  have HB : Hid (BodiesAt w a n B0) := h
  clear h
  go_enter Tryz.func3, Tryz.ntmps3
  go_upto_region 1 with fail
  have H1 : Hid (VecAt (w.alloc (.cells #[.int .i64 f1, .int .i64 f2, .int .i64 f3] 24)) w.heap.size f1 f2 f3 ∧ Only [] w (w.alloc (.cells #[.int .i64 f1, .int .i64 f2, .int .i64 f3] 24))) := ⟨(MapKept.heap_alloc w _).1, (Only.refl [] w).alloc _⟩
  revert H1
  generalize w.heap.size = kf
  generalize World.alloc w _ = w1
  intro H1
  go_wp2_with fail
  refine (moved_calls _).mono ?_
  rintro e w2 ⟨rfl, o2⟩
  have H2 : Hid (VecAt w2 kf f1 f2 f3 ∧ Only [] w w2) := ⟨H1.out.1.only o2 (by simp), H1.out.2.trans o2⟩
  clear o2 H1
  go_wp2_with fail
  refine (some_calls a n c B0 w2 (HB.out.only H2.out.2)).mono ?_
  rintro e w3 ⟨v, m, L, rfl, hm20, hS⟩
  obtain ⟨a3, g3, c3, rfl, hO, _, _⟩ := OwnS.of_rowN hS.row
  have H3 : Hid (VecAt w3 kf f1 f2 f3 ∧ Only [] w w3 ∧ BodiesAt w3 a3 m L ∧ (∀ j, j < m → rightW (L j) = 0) ∧ m ≤ 20) := ⟨H2.out.1.only hS.only (by simp), H2.out.2.trans hS.only, hO.bodies, hS.fit, hm20⟩
  clear hm20 hS hO H2
  go_upto_region 4 with fail
  have HK : Hid (∀ w', Only [] w3 w' → w'.cell? ⟨kf, 0, none⟩ = some (.int .i64 f1) ∧ w'.cell? ⟨kf, 1, none⟩ = some (.int .i64 f2) ∧ w'.cell? ⟨kf, 2, none⟩ = some (.int .i64 f3)) := fun w' o => ⟨cell_old1 o (H3.out.1.off 0), cell_old1 o (H3.out.1.off 1), cell_old1 o (H3.out.1.off 2)⟩
  refine wp_region_held_drew (S := (fun w' => w'.cell? ⟨kf, 0, none⟩ = some (.int .i64 f1) ∧ w'.cell? ⟨kf, 1, none⟩ = some (.int .i64 f2) ∧ w'.cell? ⟨kf, 2, none⟩ = some (.int .i64 f3))) (by kernel_rfl) ?_ (fun hHeld1 => ?_)
  · (try dsimp only); exact HK.out _ (Only.refl [] w3).drew
  refine wpAnyH_take (i := 0) (v := ?_) rfl (by kernel_rfl) (by kernel_rfl) (by kernel_rfl) (fun _ _ _ h => h) (Or.inl ⟨by kernel_rfl, ?_⟩) (by assumption) ?_
  rotate_left
  · intro w'' hSw; (try dsimp only at hSw); simp only [zqa, zqb, zqc]; (go_simp <;> with_reducible rfl)
  try simp only [Act.put, zqd, zqe, zqf, zqa, zqb, zqc]
  refine wpAnyH_take (i := 1) (v := ?_) rfl (by kernel_rfl) (by kernel_rfl) (by kernel_rfl) (fun _ _ _ h => h) (Or.inl ⟨by kernel_rfl, ?_⟩) (by assumption) ?_
  rotate_left
  · intro w'' hSw; (try dsimp only at hSw); simp only [zqa, zqb, zqc]; (go_simp <;> with_reducible rfl)
  try simp only [Act.put, zqd, zqe, zqf, zqa, zqb, zqc]
  refine wpAnyH_take (i := 2) (v := ?_) rfl (by kernel_rfl) (by kernel_rfl) (by kernel_rfl) (fun _ _ _ h => h) (Or.inl ⟨by kernel_rfl, ?_⟩) (by assumption) ?_
  rotate_left
  · intro w'' hSw; (try dsimp only at hSw); simp only [zqa, zqb, zqc]; (go_simp <;> with_reducible rfl)
  try simp only [Act.put, zqd, zqe, zqf, zqa, zqb, zqc]
  refine wpAnyH_take (i := 3) (v := ?_) rfl (by kernel_rfl) (by kernel_rfl) (by kernel_rfl) (fun _ _ _ h => h) (Or.inl ⟨by kernel_rfl, ?_⟩) (by assumption) ?_
  rotate_left
  · intro w'' hSw; (try dsimp only at hSw); simp only [zqa, zqb, zqc]; (go_simp <;> with_reducible rfl)
  try simp only [Act.put, zqd, zqe, zqf, zqa, zqb, zqc]
  refine wpAnyH_take (i := 4) (v := ?_) rfl (by kernel_rfl) (by kernel_rfl) (by kernel_rfl) (fun _ _ _ h => h) (Or.inl ⟨by kernel_rfl, ?_⟩) (by assumption) ?_
  rotate_left
  · intro w'' hSw; (try dsimp only at hSw); simp only [zqa, zqb, zqc]; (go_simp <;> with_reducible rfl)
  try simp only [Act.put, zqd, zqe, zqf, zqa, zqb, zqc]
  refine wpAnyH_ready (rs := [5]) (by kernel_rfl) (by simp) ?_
  refine AllReadyH.cons rfl (fun K hK => ?_) AllReadyH.nil
  first | (with_reducible refine iteYes ?hcx ?htx; case hcx => kernel_rfl) | rw [if_pos (by rfl)]
  simp only [zqa, zqb, zqc]
  go_simp
  (go_at_call 8; refine (lawR_calls _ _ _ _).mono ?_; rintro e w4 ⟨bo, ru, ro, rfl, hr, o4⟩; have H4 : Hid (Only [] w3 w4 ∧ BodiesAt w4 a3 m L ∧ rightX bo ru ro = true ∧ Only [] w w4) := ⟨(Only.refl [] w3).drew.trans o4, H3.out.2.2.1.only ((Only.refl [] w3).drew.trans o4), hr, H3.out.2.1.trans ((Only.refl [] w3).drew.trans o4)⟩; clear hr o4)
  try go_wp2_with fail
  refine hK.out _ _ ?_ (fun hHeld2 => ?_)
  · (try dsimp only); exact HK.out _ H4.out.1
  clear hK K hHeld1
  try simp only [Act.put, zqd, zqe, zqf, zqa, zqb, zqc]
  refine wpAnyH_ready (rs := [6]) (by kernel_rfl) (by simp) ?_
  refine AllReadyH.cons rfl (fun K hK => ?_) AllReadyH.nil
  first | (with_reducible refine iteYes ?hcx ?htx; case hcx => kernel_rfl) | rw [if_pos (by rfl)]
  simp only [zqa, zqb, zqc]
  go_simp
  (go_at_call 7; refine (filled_calls a3 m c3 L f1 f2 f3 bo ru ro w4 (by have := H3.out.2.2.2.2; omega) H4.out.2.1 H3.out.2.2.2.1 H4.out.2.2.1).mono ?_; rintro e w5 ⟨x, g, a5, cap5, t, M, D, rfl, hF⟩; have H5 : Hid (BW w4 x (fallC f1 f2 f3 bo ru ro) m t L 0 g a5 cap5 (NB L m) M D w5 ∧ Only [] w4 w5) := ⟨BW.first hF H3.out.2.2.2.1, hF.ww.only⟩; clear hF)
  try go_wp2_with fail
  refine hK.out _ _ ?_ (fun hHeld3 => ?_)
  · (try dsimp only); exact HK.out _ (H4.out.1.trans H5.out.2)
  clear hK K hHeld2
  try simp only [Act.put, zqd, zqe, zqf, zqa, zqb, zqc]
  refine wpAnyH_take (i := 7) (v := ?_) rfl (by kernel_rfl) (by kernel_rfl) (by kernel_rfl) (fun _ _ _ h => h) (Or.inl ⟨by kernel_rfl, ?_⟩) (by assumption) ?_
  rotate_left
  · intro w'' hSw; (try dsimp only at hSw); simp only [zqa, zqb, zqc]; (go_simp <;> with_reducible rfl)
  try simp only [Act.put, zqd, zqe, zqf, zqa, zqb, zqc]
  refine wpAnyH_done (by kernel_rfl) ?_ _
  have HL : Hid (BodiesAt w4 a3 m L ∧ m ≤ 20 ∧ Only [] w w4) := ⟨H4.out.2.1, H3.out.2.2.2.2, H4.out.2.2.2⟩
  have HX : Hid (BW w4 x (fallC f1 f2 f3 bo ru ro) m t L 0 g a5 cap5 (NB L m) M D w5) := H5.out.1
  clear HK H3 H4 H5
  generalize fallC f1 f2 f3 bo ru ro = cc at HX
  go_wp2_with fail
  go_loopg [15] 21 (fun k idx wr => ∃ (i : Nat) (g : Nat) (a' : Option Addr) (cap : Nat) (B : Nat → Bd) (M : List (Int × Bx)) (D : List Nat), idx = .int .i64 (i : Int) ∧ Hid (i ≤ 20 ∧ k = 21 - i) ∧ Hid (BW w4 x cc m t L (i : Int) g a' cap B M D wr))
  case atStart => exact ⟨0, g, a5, cap5, NB L m, M, D, rfl, ⟨by omega, rfl⟩, HX⟩
  case round =>
    clear HX
    obtain ⟨i, g, a', cap, B, M, D, rfl, H6, HW⟩ := hrel
    have hi20 := H6.out.1
    have hm20 := HL.out.2.1
    go_wp2_with fail
    refine (pickW_calls ps 20 _ (by omega) (by omega)).mono ?_
    rintro e w6 ⟨p, rfl, hp0, hp1, hw⟩
    have HW6 : Hid (BW w4 x cc m t L (i : Int) g a' cap B M D w6) := by rw [hw]; exact HW.out
    clear hw HW
    by_cases hip : (i : Int) < 1 + p
    · go_wp2_with fail
      refine (bodies_calls x cc a' m cap t (m : Int) (i : Int) B w6 (by omega) HW6.out.ww.wa HW6.out.ww.own.bodies HW6.out.sl).mono ?_
      rintro e w7 ⟨a7, g7, c7, rfl, hO7, o7, hg7, hs7⟩
      have H7 : Hid (BW w4 x cc m t L (i : Int) g a' cap B M D w7 ∧ BodiesAt w7 a7 m B ∧ (∀ g' o s, m ≠ 0 → a7 = some ⟨g', o, s⟩ → g' ∉ x :: g :: D)) := by
        refine ⟨HW6.out.keep o7, hO7.bodies, fun g' o s h0 e hin => ?_⟩
        have h1 : g' = g7 := by
          rcases hO7 with q | q
          · exact absurd q h0
          · rw [q.1] at e; injection e with e; injection e with e1; exact e1.symm
        have h2 := HW6.out.ww.wa.lt
        have h3 := HW6.out.ww.glt
        rcases List.mem_cons.1 hin with q | hin
        · omega
        · rcases List.mem_cons.1 hin with q | hin
          · omega
          · have := HW6.out.ww.tree.lt _ hin; omega
      clear hO7 o7 hg7 hs7 HW6
      go_wp2_with fail
      refine (step_calls w7 x g cc a' m cap t (m : Int) (i : Int) B M D w7 (by omega) H7.out.1.ww.rebase H7.out.1.rises (fun j => by rw [H7.out.1.ids]; exact NB_in L m j (by omega)) H7.out.1.sl (by omega) (by omega)).mono ?_
      rintro e w8 ⟨rfl, g8, a8, cap8, D8, hW8, hS8⟩
      have H8 : Hid (BW w4 x cc m t L ((i : Int) + 1) g8 a8 cap8 (stepW cc B m M) (hangM (stepW cc B m M) M m) D8 w8 ∧ BodiesAt w8 a7 m B ∧ (∀ j, j < m → OneB j (L j) (B j) (stepW cc B m M j))) := by
        refine ⟨H7.out.1.step hW8 hS8, ?_, fun j hj => H7.out.1.one hj⟩
        by_cases h0 : m = 0
        · intro j hj; omega
        · exact H7.out.2.1.onlyD hW8.only (fun g' o s e => H7.out.2.2 g' o s h0 e)
      clear hW8 hS8 H7
      go_wp2_with fail
      refine (bodies_calls x cc a8 m cap8 t (m : Int) ((i : Int) + 1) (stepW cc B m M) w8 (by omega) H8.out.1.ww.wa H8.out.1.ww.own.bodies H8.out.1.sl).mono ?_
      rintro e w9 ⟨a9, g9, c9, rfl, hO9, o9, hg9, hs9⟩
      have H9 : Hid (BW w4 x cc m t L ((i : Int) + 1) g8 a8 cap8 (stepW cc B m M) (hangM (stepW cc B m M) M m) D8 w9 ∧ BodiesAt w9 a7 m B ∧ BodiesAt w9 a9 m (stepW cc B m M) ∧ (∀ j, j < m → OneB j (L j) (B j) (stepW cc B m M j)) ∧ BodiesAt w9 a3 m L) := by
        have hk := H8.out.1.keep o9
        exact ⟨hk, H8.out.2.1.only o9, hO9.bodies, H8.out.2.2, HL.out.1.only hk.ww.only⟩
      clear hO9 o9 hg9 hs9 H8
      go_wp2_with fail
      go_loopg [18] m (fun k idx wr => ∃ j : Nat, idx = .int .i64 (j : Int) ∧ Hid (j ≤ m ∧ k = m - j) ∧ Hid (Only [] w9 wr))
      case atStart => exact ⟨0, rfl, ⟨by omega, rfl⟩, Only.refl _ _⟩
      case round =>
        obtain ⟨j, rfl, HJ, HO⟩ := hrel
        by_cases hj : j < m
        · have hjl : (j : Int) < (m : Int) := by omega
          obtain ⟨gi, oi, rfl, hci⟩ := (H9.out.2.2.1.only HO.out) j hj
          obtain ⟨ga, oa, rfl, hca⟩ := H9.out.2.1.allO hj
          obtain ⟨gl, ol, rfl, hcl⟩ := H9.out.2.2.2.2.allO hj
          have HONE : Hid (OneB j (L j) (B j) (stepW cc B m M j)) := H9.out.2.2.2.1 j hj
          generalize stepW cc B m M j = q at hci HONE
          generalize hpb : B j = pb at hca HONE
          generalize hlb : L j = lb at hcl HONE
          clear hpb hlb
          have HCA : Hid (∀ w', Only [] w9 w' → AllO w' ga (oa + j * 17) pb) := fun w' o => hca.only o
          have HCL : Hid (∀ w', Only [] w9 w' → AllO w' gl (ol + j * 17) lb) := fun w' o => hcl.only o
          clear hca hcl
          go_upto_region 19 with (first | (refine wpList_load_mid rfl 37 (.tmp 66) rfl gi (oi + j * 17) rfl [.int .i64 (q.id), .int .i64 (q.ow), .int .i64 (q.kd), .int .i64 (q.sx), .int .i64 (q.sy), .int .i64 (q.sz), .int .i64 (q.ax), .int .i64 (q.ay), .int .i64 (q.az), .int .i64 (q.vx), .int .i64 (q.vy), .int .i64 (q.vz), .int .i64 (q.px), .int .i64 (q.py), .int .i64 (q.pz), .int .i64 (q.ms), .int .i64 (q.tm)] _ (range17 hci) Tryz.underlying37 rfl bodySize ?_))
          clear hci
          have H10 : Hid (BodyAt (wr.alloc (.cells #[.int .i64 (q.id), .int .i64 (q.ow), .int .i64 (q.kd), .int .i64 (q.sx), .int .i64 (q.sy), .int .i64 (q.sz), .int .i64 (q.ax), .int .i64 (q.ay), .int .i64 (q.az), .int .i64 (q.vx), .int .i64 (q.vy), .int .i64 (q.vz), .int .i64 (q.px), .int .i64 (q.py), .int .i64 (q.pz), .int .i64 (q.ms), .int .i64 (q.tm)] 37)) wr.heap.size q ∧ Only [] w9 (wr.alloc (.cells #[.int .i64 (q.id), .int .i64 (q.ow), .int .i64 (q.kd), .int .i64 (q.sx), .int .i64 (q.sy), .int .i64 (q.sz), .int .i64 (q.ax), .int .i64 (q.ay), .int .i64 (q.az), .int .i64 (q.vx), .int .i64 (q.vy), .int .i64 (q.vz), .int .i64 (q.px), .int .i64 (q.py), .int .i64 (q.pz), .int .i64 (q.ms), .int .i64 (q.tm)] 37))) := ⟨(MapKept.heap_alloc wr _).1, HO.out.trans ((Only.refl [] wr).alloc _)⟩
          revert H10
          generalize wr.heap.size = kb
          generalize World.alloc wr _ = w10
          intro H10
          clear HO
          have HQ : Hid (∀ w', Only [] w10 w' → BodyAt w' kb q) := fun w' o => H10.out.1.only o
          refine wp_region_held_drew (S := (fun w' => Only [] w10 w')) (by kernel_rfl) ?_ (fun hHeld1 => ?_)
          · (try dsimp only); exact (Only.refl [] w10).drew
          refine wpAnyH_take (i := 0) (v := ?_) rfl (by kernel_rfl) (by kernel_rfl) (by kernel_rfl) (fun _ _ _ h => h) (Or.inl ⟨by kernel_rfl, ?_⟩) (by assumption) ?_
          rotate_left
          · intro w'' hSw; (try dsimp only at hSw); simp only [zqa, zqb, zqc]; (go_simp <;> with_reducible rfl)
          try simp only [Act.put, zqd, zqe, zqf, zqa, zqb, zqc]
          refine wpAnyH_take (i := 3) (v := ?_) rfl (by kernel_rfl) (by kernel_rfl) (by kernel_rfl) (fun _ _ _ h => h) (Or.inl ⟨by kernel_rfl, ?_⟩) (by assumption) ?_
          rotate_left
          · intro w'' hSw; (try dsimp only at hSw); simp only [zqa, zqb, zqc]; (go_simp <;> with_reducible rfl)
          try simp only [Act.put, zqd, zqe, zqf, zqa, zqb, zqc]
          refine wpAnyH_take (i := 1) (v := ?_) rfl (by kernel_rfl) (by kernel_rfl) (by kernel_rfl) (fun _ _ _ h => h) (Or.inl ⟨by kernel_rfl, ?_⟩) (by assumption) ?_
          rotate_left
          · intro w'' hSw; (try dsimp only at hSw); have d6 := (HQ.out _ hSw).off 6; have d7 := (HQ.out _ hSw).off 7; have d8 := (HQ.out _ hSw).off 8; simp only [zqg, zqh, zqi] at d6 d7 d8; simp only [zqa, zqb, zqc]; (go_simp <;> with_reducible rfl)
          try simp only [Act.put, zqd, zqe, zqf, zqa, zqb, zqc]
          refine wpAnyH_take (i := 4) (v := ?_) rfl (by kernel_rfl) (by kernel_rfl) (by kernel_rfl) (fun _ _ _ h => h) (Or.inl ⟨by kernel_rfl, ?_⟩) (by assumption) ?_
          rotate_left
          · intro w'' hSw; (try dsimp only at hSw); have d6 := (HQ.out _ hSw).off 6; have d7 := (HQ.out _ hSw).off 7; have d8 := (HQ.out _ hSw).off 8; simp only [zqg, zqh, zqi] at d6 d7 d8; simp only [zqa, zqb, zqc]; (go_simp <;> with_reducible rfl)
          try simp only [Act.put, zqd, zqe, zqf, zqa, zqb, zqc]
          refine wpAnyH_ready (rs := [2]) (by kernel_rfl) (by simp) ?_
          refine AllReadyH.cons rfl (fun K hK => ?_) AllReadyH.nil
          first | (with_reducible refine iteYes ?hcx ?htx; case hcx => kernel_rfl) | rw [if_pos (by rfl)]
          simp only [zqa, zqb, zqc]
          go_simp
          (go_at_call 12; refine (clamp_calls _ _ _ _ _ (by decide)).mono ?_; rintro e w11 ⟨rfl, kk⟩; have Hw11 : Hid (Only [] w10 w11) := (Only.refl [] w10).drew.trans (Only.of_kept kk); clear kk; simp only [bound_place]; rw [HONE.out.at'.1, HONE.out.at'.2.1, HONE.out.at'.2.2])
          try go_wp2_with fail
          refine hK.out _ _ ?_ (fun hHeld2 => ?_)
          · (try dsimp only); exact Hw11.out
          clear hK K hHeld1
          try simp only [Act.put, zqd, zqe, zqf, zqa, zqb, zqc]
          refine wpAnyH_take (i := 5) (v := .bool false) rfl (by kernel_rfl) (by kernel_rfl) (by kernel_rfl) (fun _ _ _ h => h) (Or.inl ⟨by kernel_rfl, ?_⟩) (by assumption) ?_
          · intro w'' hSw; (try dsimp only at hSw); simp only [zqa, zqb, zqc]; (go_simp <;> rfl)
          try simp only [Act.put, zqd, zqe, zqf, zqa, zqb, zqc]
          refine wpAnyH_take (i := 6) (v := ?_) rfl (by kernel_rfl) (by kernel_rfl) (by kernel_rfl) (fun _ _ _ h => h) (Or.inl ⟨by kernel_rfl, ?_⟩) (by assumption) ?_
          rotate_left
          · intro w'' hSw; (try dsimp only at hSw); simp only [zqa, zqb, zqc]; (go_simp <;> with_reducible rfl)
          try simp only [Act.put, zqd, zqe, zqf, zqa, zqb, zqc]
          refine wpAnyH_take (i := 7) (v := ?_) rfl (by kernel_rfl) (by kernel_rfl) (by kernel_rfl) (fun _ _ _ h => h) (Or.inl ⟨by kernel_rfl, ?_⟩) (by assumption) ?_
          rotate_left
          · intro w'' hSw; (try dsimp only at hSw); simp only [zqa, zqb, zqc]; (go_simp <;> with_reducible rfl)
          try simp only [Act.put, zqd, zqe, zqf, zqa, zqb, zqc]
          refine wpAnyH_take (i := 8) (v := ?_) rfl (by kernel_rfl) (by kernel_rfl) (by kernel_rfl) (fun _ _ _ h => h) (Or.inl ⟨by kernel_rfl, ?_⟩) (by assumption) ?_
          rotate_left
          · intro w'' hSw; (try dsimp only at hSw); have d9 := (HQ.out _ hSw).off 9; have d10 := (HQ.out _ hSw).off 10; have d11 := (HQ.out _ hSw).off 11; simp only [zqg, zqh, zqi] at d9 d10 d11; simp only [zqa, zqb, zqc]; (go_simp <;> with_reducible rfl)
          try simp only [Act.put, zqd, zqe, zqf, zqa, zqb, zqc]
          refine wpAnyH_take (i := 10) (v := ?_) rfl (by kernel_rfl) (by kernel_rfl) (by kernel_rfl) (fun _ _ _ h => h) (Or.inl ⟨by kernel_rfl, ?_⟩) (by assumption) ?_
          rotate_left
          · intro w'' hSw; (try dsimp only at hSw); simp only [zqa, zqb, zqc]; (go_simp <;> with_reducible rfl)
          try simp only [Act.put, zqd, zqe, zqf, zqa, zqb, zqc]
          refine wpAnyH_take (i := 11) (v := ?_) rfl (by kernel_rfl) (by kernel_rfl) (by kernel_rfl) (fun _ _ _ h => h) (Or.inl ⟨by kernel_rfl, ?_⟩) (by assumption) ?_
          rotate_left
          · intro w'' hSw; (try dsimp only at hSw); have d9 := (HQ.out _ hSw).off 9; have d10 := (HQ.out _ hSw).off 10; have d11 := (HQ.out _ hSw).off 11; simp only [zqg, zqh, zqi] at d9 d10 d11; simp only [zqa, zqb, zqc]; (go_simp <;> with_reducible rfl)
          try simp only [Act.put, zqd, zqe, zqf, zqa, zqb, zqc]
          refine wpAnyH_ready (rs := [9]) (by kernel_rfl) (by simp) ?_
          refine AllReadyH.cons rfl (fun K hK => ?_) AllReadyH.nil
          first | (with_reducible refine iteYes ?hcx ?htx; case hcx => kernel_rfl) | rw [if_pos (by rfl)]
          simp only [zqa, zqb, zqc]
          go_simp
          (go_at_call 12; refine (clamp_calls _ _ _ _ _ (by decide)).mono ?_; rintro e w12 ⟨rfl, kk⟩; have Hw12 : Hid (Only [] w10 w12) := Hw11.out.trans (Only.of_kept kk); clear kk; simp only [bound_speed]; rw [HONE.out.sp.1, HONE.out.sp.2.1, HONE.out.sp.2.2])
          try go_wp2_with fail
          refine hK.out _ _ ?_ (fun hHeld3 => ?_)
          · (try dsimp only); exact Hw12.out
          clear hK K hHeld2
          try simp only [Act.put, zqd, zqe, zqf, zqa, zqb, zqc]
          refine wpAnyH_take (i := 12) (v := .bool false) rfl (by kernel_rfl) (by kernel_rfl) (by kernel_rfl) (fun _ _ _ h => h) (Or.inl ⟨by kernel_rfl, ?_⟩) (by assumption) ?_
          · intro w'' hSw; (try dsimp only at hSw); simp only [zqa, zqb, zqc]; (go_simp <;> rfl)
          try simp only [Act.put, zqd, zqe, zqf, zqa, zqb, zqc]
          refine wpAnyH_take (i := 13) (v := ?_) rfl (by kernel_rfl) (by kernel_rfl) (by kernel_rfl) (fun _ _ _ h => h) (Or.inl ⟨by kernel_rfl, ?_⟩) (by assumption) ?_
          rotate_left
          · intro w'' hSw; (try dsimp only at hSw); simp only [zqa, zqb, zqc]; (go_simp <;> with_reducible rfl)
          try simp only [Act.put, zqd, zqe, zqf, zqa, zqb, zqc]
          refine wpAnyH_take (i := 14) (v := ?_) rfl (by kernel_rfl) (by kernel_rfl) (by kernel_rfl) (fun _ _ _ h => h) (Or.inl ⟨by kernel_rfl, ?_⟩) (by assumption) ?_
          rotate_left
          · intro w'' hSw; (try dsimp only at hSw); simp only [zqa, zqb, zqc]; (go_simp <;> with_reducible rfl)
          try simp only [Act.put, zqd, zqe, zqf, zqa, zqb, zqc]
          refine wpAnyH_take (i := 15) (v := ?_) rfl (by kernel_rfl) (by kernel_rfl) (by kernel_rfl) (fun _ _ _ h => h) (Or.inl ⟨by kernel_rfl, ?_⟩) (by assumption) ?_
          rotate_left
          · intro w'' hSw; (try dsimp only at hSw); simp only [zqa, zqb, zqc]; (go_simp <;> with_reducible rfl)
          try simp only [Act.put, zqd, zqe, zqf, zqa, zqb, zqc]
          refine wpAnyH_take (i := 16) (v := ?_) rfl (by kernel_rfl) (by kernel_rfl) (by kernel_rfl) (fun _ _ _ h => h) (Or.inl ⟨by kernel_rfl, ?_⟩) (by assumption) ?_
          rotate_left
          · intro w'' hSw; (try dsimp only at hSw); have d0 := (HQ.out _ hSw).off 0; simp only [zqg, zqh, zqi] at d0; rw [HONE.out.id] at d0; simp only [zqa, zqb, zqc]; (go_simp <;> with_reducible rfl)
          try simp only [Act.put, zqd, zqe, zqf, zqa, zqb, zqc]
          refine wpAnyH_take (i := 17) (v := ?_) rfl (by kernel_rfl) (by kernel_rfl) (by kernel_rfl) (fun _ _ _ h => h) (Or.inl ⟨by kernel_rfl, ?_⟩) (by assumption) ?_
          rotate_left
          · intro w'' hSw; (try dsimp only at hSw); simp only [zqa, zqb, zqc]; (go_simp <;> with_reducible rfl)
          try simp only [Act.put, zqd, zqe, zqf, zqa, zqb, zqc]
          refine wpAnyH_take (i := 18) (v := (.int .i64 ((j : Int) + 1))) rfl (by kernel_rfl) (by kernel_rfl) (by kernel_rfl) (fun _ _ _ h => h) (Or.inl ⟨by kernel_rfl, ?_⟩) (by assumption) ?_
          · intro w'' hSw; (try dsimp only at hSw); have hjw : IntKind.i64.wrap ((j : Int) + 1) = (j : Int) + 1 := wrap_one (by omega); simp only [zqa, zqb, zqc]; (go_simp <;> rfl)
          try simp only [Act.put, zqd, zqe, zqf, zqa, zqb, zqc]
          refine wpAnyH_take (i := 19) (v := .bool false) rfl (by kernel_rfl) (by kernel_rfl) (by kernel_rfl) (fun _ _ _ h => h) (Or.inl ⟨by kernel_rfl, ?_⟩) (by assumption) ?_
          · intro w'' hSw; (try dsimp only at hSw); simp only [zqa, zqb, zqc]; (go_simp <;> rfl)
          try simp only [Act.put, zqd, zqe, zqf, zqa, zqb, zqc]
          refine wpAnyH_take (i := 20) (v := ?_) rfl (by kernel_rfl) (by kernel_rfl) (by kernel_rfl) (fun _ _ _ h => h) (Or.inl ⟨by kernel_rfl, ?_⟩) (by assumption) ?_
          rotate_left
          · intro w'' hSw; (try dsimp only at hSw); simp only [zqa, zqb, zqc]; (go_simp <;> with_reducible rfl)
          try simp only [Act.put, zqd, zqe, zqf, zqa, zqb, zqc]
          refine wpAnyH_take (i := 21) (v := ?_) rfl (by kernel_rfl) (by kernel_rfl) (by kernel_rfl) (fun _ _ _ h => h) (Or.inl ⟨by kernel_rfl, ?_⟩) (by assumption) ?_
          rotate_left
          · intro w'' hSw; (try dsimp only at hSw); simp only [zqa, zqb, zqc]; (go_simp <;> with_reducible rfl)
          try simp only [Act.put, zqd, zqe, zqf, zqa, zqb, zqc]
          refine wpAnyH_take (i := 22) (v := ?_) rfl (by kernel_rfl) (by kernel_rfl) (by kernel_rfl) (fun _ _ _ h => h) (Or.inl ⟨by kernel_rfl, ?_⟩) (by assumption) ?_
          rotate_left
          · intro w'' hSw; (try dsimp only at hSw); simp only [zqa, zqb, zqc]; (go_simp <;> with_reducible rfl)
          try simp only [Act.put, zqd, zqe, zqf, zqa, zqb, zqc]
          refine wpAnyH_take (i := 23) (v := ?_) rfl (by kernel_rfl) (by kernel_rfl) (by kernel_rfl) (fun _ _ _ h => h) (Or.inl ⟨by kernel_rfl, ?_⟩) (by assumption) ?_
          rotate_left
          · intro w'' hSw; (try dsimp only at hSw); have d2 := (HQ.out _ hSw).off 2; have d3 := (HQ.out _ hSw).off 3; have d4 := (HQ.out _ hSw).off 4; have d5 := (HQ.out _ hSw).off 5; simp only [zqg, zqh, zqi] at d2 d3 d4 d5; simp only [zqa, zqb, zqc]; (go_simp <;> with_reducible rfl)
          try simp only [Act.put, zqd, zqe, zqf, zqa, zqb, zqc]
          refine wpAnyH_take (i := 24) (v := ?_) rfl (by kernel_rfl) (by kernel_rfl) (by kernel_rfl) (fun _ _ _ h => h) (Or.inl ⟨by kernel_rfl, ?_⟩) (by assumption) ?_
          rotate_left
          · intro w'' hSw; (try dsimp only at hSw); simp only [zqa, zqb, zqc]; (go_simp <;> with_reducible rfl)
          try simp only [Act.put, zqd, zqe, zqf, zqa, zqb, zqc]
          refine wpAnyH_take (i := 25) (v := ?_) rfl (by kernel_rfl) (by kernel_rfl) (by kernel_rfl) (fun _ _ _ h => h) (Or.inl ⟨by kernel_rfl, ?_⟩) (by assumption) ?_
          rotate_left
          · intro w'' hSw; (try dsimp only at hSw); simp only [zqa, zqb, zqc]; (go_simp <;> with_reducible rfl)
          try simp only [Act.put, zqd, zqe, zqf, zqa, zqb, zqc]
          refine wpAnyH_take (i := 26) (v := ?_) rfl (by kernel_rfl) (by kernel_rfl) (by kernel_rfl) (fun _ _ _ h => h) (Or.inl ⟨by kernel_rfl, ?_⟩) (by assumption) ?_
          rotate_left
          · intro w'' hSw; (try dsimp only at hSw); simp only [zqa, zqb, zqc]; (go_simp <;> with_reducible rfl)
          try simp only [Act.put, zqd, zqe, zqf, zqa, zqb, zqc]
          refine wpAnyH_take (i := 27) (v := ?_) rfl (by kernel_rfl) (by kernel_rfl) (by kernel_rfl) (fun _ _ _ h => h) (Or.inl ⟨by kernel_rfl, ?_⟩) (by assumption) ?_
          rotate_left
          · intro w'' hSw; (try dsimp only at hSw); simp only [zqa, zqb, zqc]; (go_simp <;> with_reducible rfl)
          try simp only [Act.put, zqd, zqe, zqf, zqa, zqb, zqc]
          refine wpAnyH_take (i := 28) (v := ?_) rfl (by kernel_rfl) (by kernel_rfl) (by kernel_rfl) (fun _ _ _ h => h) (Or.inl ⟨by kernel_rfl, ?_⟩) (by assumption) ?_
          rotate_left
          · intro w'' hSw; (try dsimp only at hSw); obtain ⟨d0, d1, d2, d3, d4, d5, d6, d7, d8, d9, d10, d11, d12, d13, d14, d15, d16⟩ := HCL.out _ (H10.out.2.trans hSw); rw [← HONE.out.sh.1] at d2; rw [← HONE.out.sh.2.1] at d3; rw [← HONE.out.sh.2.2.1] at d4; rw [← HONE.out.sh.2.2.2] at d5; simp only [zqa, zqb, zqc]; (go_simp <;> with_reducible rfl)
          try simp only [Act.put, zqd, zqe, zqf, zqa, zqb, zqc]
          refine wpAnyH_take (i := 29) (v := .bool false) rfl (by kernel_rfl) (by kernel_rfl) (by kernel_rfl) (fun _ _ _ h => h) (Or.inl ⟨by kernel_rfl, ?_⟩) (by assumption) ?_
          · intro w'' hSw; (try dsimp only at hSw); simp only [zqa, zqb, zqc]; (go_simp <;> rfl)
          try simp only [Act.put, zqd, zqe, zqf, zqa, zqb, zqc]
          refine wpAnyH_take (i := 30) (v := ?_) rfl (by kernel_rfl) (by kernel_rfl) (by kernel_rfl) (fun _ _ _ h => h) (Or.inl ⟨by kernel_rfl, ?_⟩) (by assumption) ?_
          rotate_left
          · intro w'' hSw; (try dsimp only at hSw); simp only [zqa, zqb, zqc]; (go_simp <;> with_reducible rfl)
          try simp only [Act.put, zqd, zqe, zqf, zqa, zqb, zqc]
          refine wpAnyH_take (i := 31) (v := ?_) rfl (by kernel_rfl) (by kernel_rfl) (by kernel_rfl) (fun _ _ _ h => h) (Or.inl ⟨by kernel_rfl, ?_⟩) (by assumption) ?_
          rotate_left
          · intro w'' hSw; (try dsimp only at hSw); simp only [zqa, zqb, zqc]; (go_simp <;> with_reducible rfl)
          try simp only [Act.put, zqd, zqe, zqf, zqa, zqb, zqc]
          refine wpAnyH_take (i := 32) (v := ?_) rfl (by kernel_rfl) (by kernel_rfl) (by kernel_rfl) (fun _ _ _ h => h) (Or.inl ⟨by kernel_rfl, ?_⟩) (by assumption) ?_
          rotate_left
          · intro w'' hSw; (try dsimp only at hSw); simp only [zqa, zqb, zqc]; (go_simp <;> with_reducible rfl)
          try simp only [Act.put, zqd, zqe, zqf, zqa, zqb, zqc]
          refine wpAnyH_take (i := 33) (v := ?_) rfl (by kernel_rfl) (by kernel_rfl) (by kernel_rfl) (fun _ _ _ h => h) (Or.inl ⟨by kernel_rfl, ?_⟩) (by assumption) ?_
          rotate_left
          · intro w'' hSw; (try dsimp only at hSw); have d1 := (HQ.out _ hSw).off 1; simp only [zqg, zqh, zqi] at d1; simp only [zqa, zqb, zqc]; (go_simp <;> with_reducible rfl)
          try simp only [Act.put, zqd, zqe, zqf, zqa, zqb, zqc]
          refine wpAnyH_take (i := 34) (v := ?_) rfl (by kernel_rfl) (by kernel_rfl) (by kernel_rfl) (fun _ _ _ h => h) (Or.inl ⟨by kernel_rfl, ?_⟩) (by assumption) ?_
          rotate_left
          · intro w'' hSw; (try dsimp only at hSw); simp only [zqa, zqb, zqc]; (go_simp <;> with_reducible rfl)
          try simp only [Act.put, zqd, zqe, zqf, zqa, zqb, zqc]
          refine wpAnyH_take (i := 35) (v := ?_) rfl (by kernel_rfl) (by kernel_rfl) (by kernel_rfl) (fun _ _ _ h => h) (Or.inl ⟨by kernel_rfl, ?_⟩) (by assumption) ?_
          rotate_left
          · intro w'' hSw; (try dsimp only at hSw); simp only [zqa, zqb, zqc]; (go_simp <;> with_reducible rfl)
          try simp only [Act.put, zqd, zqe, zqf, zqa, zqb, zqc]
          refine wpAnyH_take (i := 36) (v := ?_) rfl (by kernel_rfl) (by kernel_rfl) (by kernel_rfl) (fun _ _ _ h => h) (Or.inl ⟨by kernel_rfl, ?_⟩) (by assumption) ?_
          rotate_left
          · intro w'' hSw; (try dsimp only at hSw); simp only [zqa, zqb, zqc]; (go_simp <;> with_reducible rfl)
          try simp only [Act.put, zqd, zqe, zqf, zqa, zqb, zqc]
          refine wpAnyH_take (i := 37) (v := ?_) rfl (by kernel_rfl) (by kernel_rfl) (by kernel_rfl) (fun _ _ _ h => h) (Or.inl ⟨by kernel_rfl, ?_⟩) (by assumption) ?_
          rotate_left
          · intro w'' hSw; (try dsimp only at hSw); simp only [zqa, zqb, zqc]; (go_simp <;> with_reducible rfl)
          try simp only [Act.put, zqd, zqe, zqf, zqa, zqb, zqc]
          refine wpAnyH_take (i := 38) (v := ?_) rfl (by kernel_rfl) (by kernel_rfl) (by kernel_rfl) (fun _ _ _ h => h) (Or.inl ⟨by kernel_rfl, ?_⟩) (by assumption) ?_
          rotate_left
          · intro w'' hSw; (try dsimp only at hSw); obtain ⟨d0, d1, d2, d3, d4, d5, d6, d7, d8, d9, d10, d11, d12, d13, d14, d15, d16⟩ := HCL.out _ (H10.out.2.trans hSw); rw [← HONE.out.ow] at d1; simp only [zqa, zqb, zqc]; (go_simp <;> with_reducible rfl)
          try simp only [Act.put, zqd, zqe, zqf, zqa, zqb, zqc]
          refine wpAnyH_take (i := 39) (v := .bool false) rfl (by kernel_rfl) (by kernel_rfl) (by kernel_rfl) (fun _ _ _ h => h) (Or.inl ⟨by kernel_rfl, ?_⟩) (by assumption) ?_
          · intro w'' hSw; (try dsimp only at hSw); simp only [zqa, zqb, zqc]; (go_simp <;> rfl)
          try simp only [Act.put, zqd, zqe, zqf, zqa, zqb, zqc]
          refine wpAnyH_take (i := 40) (v := ?_) rfl (by kernel_rfl) (by kernel_rfl) (by kernel_rfl) (fun _ _ _ h => h) (Or.inl ⟨by kernel_rfl, ?_⟩) (by assumption) ?_
          rotate_left
          · intro w'' hSw; (try dsimp only at hSw); simp only [zqa, zqb, zqc]; (go_simp <;> with_reducible rfl)
          try simp only [Act.put, zqd, zqe, zqf, zqa, zqb, zqc]
          refine wpAnyH_done (by kernel_rfl) ?_ _
          go_upto_region 21 with fail
          go_cut [147] from 109 to 147 (fun s147 wc => s147 = .bool false ∧ Only [] w9 wc)
          case first =>
            by_cases hms : q.ms = 0
            · have HMS : Hid (q.ms = 0) := hms
              clear hms
              by_cases hv : q.vx = pb.vx ∧ q.vy = pb.vy ∧ q.vz = pb.vz
              · as_aux_lemma =>
                  refine wp_region_held_drew (S := (fun w' => Only [] w10 w')) (by kernel_rfl) ?_ (fun hHeld1 => ?_)
                  · (try dsimp only); exact Hw12.out.trans (Only.refl [] w12).drew
                  refine wpAnyH_take (i := 0) (v := ?_) rfl (by kernel_rfl) (by kernel_rfl) (by kernel_rfl) (fun _ _ _ h => h) (Or.inl ⟨by kernel_rfl, ?_⟩) (by assumption) ?_
                  rotate_left
                  · intro w'' hSw; (try dsimp only at hSw); simp only [zqa, zqb, zqc]; (go_simp <;> with_reducible rfl)
                  try simp only [Act.put, zqd, zqe, zqf, zqa, zqb, zqc]
                  refine wpAnyH_take (i := 1) (v := ?_) rfl (by kernel_rfl) (by kernel_rfl) (by kernel_rfl) (fun _ _ _ h => h) (Or.inl ⟨by kernel_rfl, ?_⟩) (by assumption) ?_
                  rotate_left
                  · intro w'' hSw; (try dsimp only at hSw); have d15 := (HQ.out _ hSw).off 15; simp only [zqg, zqh, zqi] at d15; rw [HMS.out] at d15; simp only [zqa, zqb, zqc]; (go_simp <;> with_reducible rfl)
                  try simp only [Act.put, zqd, zqe, zqf, zqa, zqb, zqc]
                  refine wpAnyH_take (i := 2) (v := ?_) rfl (by kernel_rfl) (by kernel_rfl) (by kernel_rfl) (fun _ _ _ h => h) (Or.inl ⟨by kernel_rfl, ?_⟩) (by assumption) ?_
                  rotate_left
                  · intro w'' hSw; (try dsimp only at hSw); simp only [zqa, zqb, zqc]; (go_simp <;> with_reducible rfl)
                  try simp only [Act.put, zqd, zqe, zqf, zqa, zqb, zqc]
                  refine wpAnyH_take (i := 3) (v := ?_) rfl (by kernel_rfl) (by kernel_rfl) (by kernel_rfl) (fun _ _ _ h => h) (Or.inl ⟨by kernel_rfl, ?_⟩) (by assumption) ?_
                  rotate_left
                  · intro w'' hSw; (try dsimp only at hSw); simp only [zqa, zqb, zqc]; (go_simp <;> with_reducible rfl)
                  try simp only [Act.put, zqd, zqe, zqf, zqa, zqb, zqc]
                  refine wpAnyH_take (i := 4) (v := ?_) rfl (by kernel_rfl) (by kernel_rfl) (by kernel_rfl) (fun _ _ _ h => h) (Or.inl ⟨by kernel_rfl, ?_⟩) (by assumption) ?_
                  rotate_left
                  · intro w'' hSw; (try dsimp only at hSw); simp only [zqa, zqb, zqc]; (go_simp <;> with_reducible rfl)
                  try simp only [Act.put, zqd, zqe, zqf, zqa, zqb, zqc]
                  refine wpAnyH_take (i := 5) (v := ?_) rfl (by kernel_rfl) (by kernel_rfl) (by kernel_rfl) (fun _ _ _ h => h) (Or.inl ⟨by kernel_rfl, ?_⟩) (by assumption) ?_
                  rotate_left
                  · intro w'' hSw; (try dsimp only at hSw); have d9 := (HQ.out _ hSw).off 9; have d10 := (HQ.out _ hSw).off 10; have d11 := (HQ.out _ hSw).off 11; simp only [zqg, zqh, zqi] at d9 d10 d11; rw [hv.1] at d9; rw [hv.2.1] at d10; rw [hv.2.2] at d11; simp only [zqa, zqb, zqc]; (go_simp <;> with_reducible rfl)
                  try simp only [Act.put, zqd, zqe, zqf, zqa, zqb, zqc]
                  refine wpAnyH_take (i := 6) (v := ?_) rfl (by kernel_rfl) (by kernel_rfl) (by kernel_rfl) (fun _ _ _ h => h) (Or.inl ⟨by kernel_rfl, ?_⟩) (by assumption) ?_
                  rotate_left
                  · intro w'' hSw; (try dsimp only at hSw); simp only [zqa, zqb, zqc]; (go_simp <;> with_reducible rfl)
                  try simp only [Act.put, zqd, zqe, zqf, zqa, zqb, zqc]
                  refine wpAnyH_take (i := 7) (v := ?_) rfl (by kernel_rfl) (by kernel_rfl) (by kernel_rfl) (fun _ _ _ h => h) (Or.inl ⟨by kernel_rfl, ?_⟩) (by assumption) ?_
                  rotate_left
                  · intro w'' hSw; (try dsimp only at hSw); simp only [zqa, zqb, zqc]; (go_simp <;> with_reducible rfl)
                  try simp only [Act.put, zqd, zqe, zqf, zqa, zqb, zqc]
                  refine wpAnyH_take (i := 8) (v := ?_) rfl (by kernel_rfl) (by kernel_rfl) (by kernel_rfl) (fun _ _ _ h => h) (Or.inl ⟨by kernel_rfl, ?_⟩) (by assumption) ?_
                  rotate_left
                  · intro w'' hSw; (try dsimp only at hSw); simp only [zqa, zqb, zqc]; (go_simp <;> with_reducible rfl)
                  try simp only [Act.put, zqd, zqe, zqf, zqa, zqb, zqc]
                  refine wpAnyH_take (i := 9) (v := ?_) rfl (by kernel_rfl) (by kernel_rfl) (by kernel_rfl) (fun _ _ _ h => h) (Or.inl ⟨by kernel_rfl, ?_⟩) (by assumption) ?_
                  rotate_left
                  · intro w'' hSw; (try dsimp only at hSw); simp only [zqa, zqb, zqc]; (go_simp <;> with_reducible rfl)
                  try simp only [Act.put, zqd, zqe, zqf, zqa, zqb, zqc]
                  refine wpAnyH_take (i := 10) (v := ?_) rfl (by kernel_rfl) (by kernel_rfl) (by kernel_rfl) (fun _ _ _ h => h) (Or.inl ⟨by kernel_rfl, ?_⟩) (by assumption) ?_
                  rotate_left
                  · intro w'' hSw; (try dsimp only at hSw); obtain ⟨d0, d1, d2, d3, d4, d5, d6, d7, d8, d9, d10, d11, d12, d13, d14, d15, d16⟩ := HCA.out _ (H10.out.2.trans hSw); simp only [zqa, zqb, zqc]; (go_simp <;> with_reducible rfl)
                  try simp only [Act.put, zqd, zqe, zqf, zqa, zqb, zqc]
                  refine wpAnyH_take (i := 11) (v := .bool false) rfl (by kernel_rfl) (by kernel_rfl) (by kernel_rfl) (fun _ _ _ h => h) (Or.inl ⟨by kernel_rfl, ?_⟩) (by assumption) ?_
                  · intro w'' hSw; (try dsimp only at hSw); simp only [zqa, zqb, zqc]; (go_simp <;> rfl)
                  try simp only [Act.put, zqd, zqe, zqf, zqa, zqb, zqc]
                  refine wpAnyH_take (i := 12) (v := ?_) rfl (by kernel_rfl) (by kernel_rfl) (by kernel_rfl) (fun _ _ _ h => h) (Or.inl ⟨by kernel_rfl, ?_⟩) (by assumption) ?_
                  rotate_left
                  · intro w'' hSw; (try dsimp only at hSw); simp only [zqa, zqb, zqc]; (go_simp <;> with_reducible rfl)
                  try simp only [Act.put, zqd, zqe, zqf, zqa, zqb, zqc]
                  refine wpAnyH_take (i := 13) (v := ?_) rfl (by kernel_rfl) (by kernel_rfl) (by kernel_rfl) (fun _ _ _ h => h) (Or.inl ⟨by kernel_rfl, ?_⟩) (by assumption) ?_
                  rotate_left
                  · intro w'' hSw; (try dsimp only at hSw); simp only [zqa, zqb, zqc]; (go_simp <;> with_reducible rfl)
                  try simp only [Act.put, zqd, zqe, zqf, zqa, zqb, zqc]
                  refine wpAnyH_take (i := 14) (v := undef) rfl (by kernel_rfl) (by kernel_rfl) (by kernel_rfl) (fun _ _ _ h => h) (Or.inr ⟨by kernel_rfl, rfl⟩) (by assumption) ?_
                  try simp only [Act.put, zqd, zqe, zqf, zqa, zqb, zqc]
                  refine wpAnyH_take (i := 15) (v := undef) rfl (by kernel_rfl) (by kernel_rfl) (by kernel_rfl) (fun _ _ _ h => h) (Or.inr ⟨by kernel_rfl, rfl⟩) (by assumption) ?_
                  try simp only [Act.put, zqd, zqe, zqf, zqa, zqb, zqc]
                  refine wpAnyH_take (i := 16) (v := undef) rfl (by kernel_rfl) (by kernel_rfl) (by kernel_rfl) (fun _ _ _ h => h) (Or.inr ⟨by kernel_rfl, rfl⟩) (by assumption) ?_
                  try simp only [Act.put, zqd, zqe, zqf, zqa, zqb, zqc]
                  refine wpAnyH_take (i := 17) (v := undef) rfl (by kernel_rfl) (by kernel_rfl) (by kernel_rfl) (fun _ _ _ h => h) (Or.inr ⟨by kernel_rfl, rfl⟩) (by assumption) ?_
                  try simp only [Act.put, zqd, zqe, zqf, zqa, zqb, zqc]
                  refine wpAnyH_take (i := 18) (v := undef) rfl (by kernel_rfl) (by kernel_rfl) (by kernel_rfl) (fun _ _ _ h => h) (Or.inr ⟨by kernel_rfl, rfl⟩) (by assumption) ?_
                  try simp only [Act.put, zqd, zqe, zqf, zqa, zqb, zqc]
                  refine wpAnyH_take (i := 19) (v := undef) rfl (by kernel_rfl) (by kernel_rfl) (by kernel_rfl) (fun _ _ _ h => h) (Or.inr ⟨by kernel_rfl, rfl⟩) (by assumption) ?_
                  try simp only [Act.put, zqd, zqe, zqf, zqa, zqb, zqc]
                  refine wpAnyH_take (i := 20) (v := undef) rfl (by kernel_rfl) (by kernel_rfl) (by kernel_rfl) (fun _ _ _ h => h) (Or.inr ⟨by kernel_rfl, rfl⟩) (by assumption) ?_
                  try simp only [Act.put, zqd, zqe, zqf, zqa, zqb, zqc]
                  refine wpAnyH_take (i := 21) (v := undef) rfl (by kernel_rfl) (by kernel_rfl) (by kernel_rfl) (fun _ _ _ h => h) (Or.inr ⟨by kernel_rfl, rfl⟩) (by assumption) ?_
                  try simp only [Act.put, zqd, zqe, zqf, zqa, zqb, zqc]
                  refine wpAnyH_take (i := 22) (v := undef) rfl (by kernel_rfl) (by kernel_rfl) (by kernel_rfl) (fun _ _ _ h => h) (Or.inr ⟨by kernel_rfl, rfl⟩) (by assumption) ?_
                  try simp only [Act.put, zqd, zqe, zqf, zqa, zqb, zqc]
                  refine wpAnyH_take (i := 23) (v := undef) rfl (by kernel_rfl) (by kernel_rfl) (by kernel_rfl) (fun _ _ _ h => h) (Or.inr ⟨by kernel_rfl, rfl⟩) (by assumption) ?_
                  try simp only [Act.put, zqd, zqe, zqf, zqa, zqb, zqc]
                  refine wpAnyH_take (i := 24) (v := undef) rfl (by kernel_rfl) (by kernel_rfl) (by kernel_rfl) (fun _ _ _ h => h) (Or.inr ⟨by kernel_rfl, rfl⟩) (by assumption) ?_
                  try simp only [Act.put, zqd, zqe, zqf, zqa, zqb, zqc]
                  refine wpAnyH_take (i := 25) (v := undef) rfl (by kernel_rfl) (by kernel_rfl) (by kernel_rfl) (fun _ _ _ h => h) (Or.inr ⟨by kernel_rfl, rfl⟩) (by assumption) ?_
                  try simp only [Act.put, zqd, zqe, zqf, zqa, zqb, zqc]
                  refine wpAnyH_take (i := 26) (v := undef) rfl (by kernel_rfl) (by kernel_rfl) (by kernel_rfl) (fun _ _ _ h => h) (Or.inr ⟨by kernel_rfl, rfl⟩) (by assumption) ?_
                  try simp only [Act.put, zqd, zqe, zqf, zqa, zqb, zqc]
                  refine wpAnyH_take (i := 27) (v := undef) rfl (by kernel_rfl) (by kernel_rfl) (by kernel_rfl) (fun _ _ _ h => h) (Or.inr ⟨by kernel_rfl, rfl⟩) (by assumption) ?_
                  try simp only [Act.put, zqd, zqe, zqf, zqa, zqb, zqc]
                  refine wpAnyH_take (i := 28) (v := undef) rfl (by kernel_rfl) (by kernel_rfl) (by kernel_rfl) (fun _ _ _ h => h) (Or.inr ⟨by kernel_rfl, rfl⟩) (by assumption) ?_
                  try simp only [Act.put, zqd, zqe, zqf, zqa, zqb, zqc]
                  refine wpAnyH_take (i := 29) (v := undef) rfl (by kernel_rfl) (by kernel_rfl) (by kernel_rfl) (fun _ _ _ h => h) (Or.inr ⟨by kernel_rfl, rfl⟩) (by assumption) ?_
                  try simp only [Act.put, zqd, zqe, zqf, zqa, zqb, zqc]
                  refine wpAnyH_take (i := 30) (v := undef) rfl (by kernel_rfl) (by kernel_rfl) (by kernel_rfl) (fun _ _ _ h => h) (Or.inr ⟨by kernel_rfl, rfl⟩) (by assumption) ?_
                  try simp only [Act.put, zqd, zqe, zqf, zqa, zqb, zqc]
                  refine wpAnyH_take (i := 31) (v := undef) rfl (by kernel_rfl) (by kernel_rfl) (by kernel_rfl) (fun _ _ _ h => h) (Or.inr ⟨by kernel_rfl, rfl⟩) (by assumption) ?_
                  try simp only [Act.put, zqd, zqe, zqf, zqa, zqb, zqc]
                  refine wpAnyH_take (i := 32) (v := undef) rfl (by kernel_rfl) (by kernel_rfl) (by kernel_rfl) (fun _ _ _ h => h) (Or.inr ⟨by kernel_rfl, rfl⟩) (by assumption) ?_
                  try simp only [Act.put, zqd, zqe, zqf, zqa, zqb, zqc]
                  refine wpAnyH_take (i := 33) (v := undef) rfl (by kernel_rfl) (by kernel_rfl) (by kernel_rfl) (fun _ _ _ h => h) (Or.inr ⟨by kernel_rfl, rfl⟩) (by assumption) ?_
                  try simp only [Act.put, zqd, zqe, zqf, zqa, zqb, zqc]
                  refine wpAnyH_take (i := 34) (v := undef) rfl (by kernel_rfl) (by kernel_rfl) (by kernel_rfl) (fun _ _ _ h => h) (Or.inr ⟨by kernel_rfl, rfl⟩) (by assumption) ?_
                  try simp only [Act.put, zqd, zqe, zqf, zqa, zqb, zqc]
                  refine wpAnyH_take (i := 35) (v := undef) rfl (by kernel_rfl) (by kernel_rfl) (by kernel_rfl) (fun _ _ _ h => h) (Or.inr ⟨by kernel_rfl, rfl⟩) (by assumption) ?_
                  try simp only [Act.put, zqd, zqe, zqf, zqa, zqb, zqc]
                  refine wpAnyH_take (i := 36) (v := undef) rfl (by kernel_rfl) (by kernel_rfl) (by kernel_rfl) (fun _ _ _ h => h) (Or.inr ⟨by kernel_rfl, rfl⟩) (by assumption) ?_
                  try simp only [Act.put, zqd, zqe, zqf, zqa, zqb, zqc]
                  refine wpAnyH_take (i := 37) (v := undef) rfl (by kernel_rfl) (by kernel_rfl) (by kernel_rfl) (fun _ _ _ h => h) (Or.inr ⟨by kernel_rfl, rfl⟩) (by assumption) ?_
                  try simp only [Act.put, zqd, zqe, zqf, zqa, zqb, zqc]
                  refine wpAnyH_take (i := 38) (v := ?_) rfl (by kernel_rfl) (by kernel_rfl) (by kernel_rfl) (fun _ _ _ h => h) (Or.inl ⟨by kernel_rfl, ?_⟩) (by assumption) ?_
                  rotate_left
                  · intro w'' hSw; (try dsimp only at hSw); simp only [zqa, zqb, zqc]; (go_simp <;> with_reducible rfl)
                  try simp only [Act.put, zqd, zqe, zqf, zqa, zqb, zqc]
                  refine wpAnyH_done (by kernel_rfl) ?_ _
                  go_wp2_with fail
                  go_meet
                  case rel => exact ⟨rfl, H10.out.2.trans (Hw12.out.trans (Only.refl [] w12).drew)⟩
              · as_aux_lemma =>
                  have HT : Hid ((!decide (q.vx = pb.vx ∧ q.vy = pb.vy ∧ q.vz = pb.vz)) = true) := by show (!decide _) = true; rw [decide_eq_false hv]; rfl
                  have HF : Hid (decide (cl 65536000 (add pb.ax pb.vx) = add pb.ax pb.vx ∧ cl 65536000 (add pb.ay pb.vy) = add pb.ay pb.vy ∧ cl 65536000 (add pb.az pb.vz) = add pb.az pb.vz) = false) := decide_eq_false (HONE.out.still HMS.out hv)
                  clear hv
                  refine wp_region_held_drew (S := (fun w' => Only [] w10 w')) (by kernel_rfl) ?_ (fun hHeld1 => ?_)
                  · (try dsimp only); exact Hw12.out.trans (Only.refl [] w12).drew
                  refine wpAnyH_take (i := 0) (v := ?_) rfl (by kernel_rfl) (by kernel_rfl) (by kernel_rfl) (fun _ _ _ h => h) (Or.inl ⟨by kernel_rfl, ?_⟩) (by assumption) ?_
                  rotate_left
                  · intro w'' hSw; (try dsimp only at hSw); simp only [zqa, zqb, zqc]; (go_simp <;> with_reducible rfl)
                  try simp only [Act.put, zqd, zqe, zqf, zqa, zqb, zqc]
                  refine wpAnyH_take (i := 1) (v := ?_) rfl (by kernel_rfl) (by kernel_rfl) (by kernel_rfl) (fun _ _ _ h => h) (Or.inl ⟨by kernel_rfl, ?_⟩) (by assumption) ?_
                  rotate_left
                  · intro w'' hSw; (try dsimp only at hSw); have d15 := (HQ.out _ hSw).off 15; simp only [zqg, zqh, zqi] at d15; rw [HMS.out] at d15; simp only [zqa, zqb, zqc]; (go_simp <;> with_reducible rfl)
                  try simp only [Act.put, zqd, zqe, zqf, zqa, zqb, zqc]
                  refine wpAnyH_take (i := 2) (v := ?_) rfl (by kernel_rfl) (by kernel_rfl) (by kernel_rfl) (fun _ _ _ h => h) (Or.inl ⟨by kernel_rfl, ?_⟩) (by assumption) ?_
                  rotate_left
                  · intro w'' hSw; (try dsimp only at hSw); simp only [zqa, zqb, zqc]; (go_simp <;> with_reducible rfl)
                  try simp only [Act.put, zqd, zqe, zqf, zqa, zqb, zqc]
                  refine wpAnyH_take (i := 3) (v := ?_) rfl (by kernel_rfl) (by kernel_rfl) (by kernel_rfl) (fun _ _ _ h => h) (Or.inl ⟨by kernel_rfl, ?_⟩) (by assumption) ?_
                  rotate_left
                  · intro w'' hSw; (try dsimp only at hSw); simp only [zqa, zqb, zqc]; (go_simp <;> with_reducible rfl)
                  try simp only [Act.put, zqd, zqe, zqf, zqa, zqb, zqc]
                  refine wpAnyH_take (i := 4) (v := ?_) rfl (by kernel_rfl) (by kernel_rfl) (by kernel_rfl) (fun _ _ _ h => h) (Or.inl ⟨by kernel_rfl, ?_⟩) (by assumption) ?_
                  rotate_left
                  · intro w'' hSw; (try dsimp only at hSw); simp only [zqa, zqb, zqc]; (go_simp <;> with_reducible rfl)
                  try simp only [Act.put, zqd, zqe, zqf, zqa, zqb, zqc]
                  refine wpAnyH_take (i := 5) (v := ?_) rfl (by kernel_rfl) (by kernel_rfl) (by kernel_rfl) (fun _ _ _ h => h) (Or.inl ⟨by kernel_rfl, ?_⟩) (by assumption) ?_
                  rotate_left
                  · intro w'' hSw; (try dsimp only at hSw); have d9 := (HQ.out _ hSw).off 9; have d10 := (HQ.out _ hSw).off 10; have d11 := (HQ.out _ hSw).off 11; simp only [zqg, zqh, zqi] at d9 d10 d11; simp only [zqa, zqb, zqc]; (go_simp <;> with_reducible rfl)
                  try simp only [Act.put, zqd, zqe, zqf, zqa, zqb, zqc]
                  refine wpAnyH_take (i := 6) (v := ?_) rfl (by kernel_rfl) (by kernel_rfl) (by kernel_rfl) (fun _ _ _ h => h) (Or.inl ⟨by kernel_rfl, ?_⟩) (by assumption) ?_
                  rotate_left
                  · intro w'' hSw; (try dsimp only at hSw); simp only [zqa, zqb, zqc]; (go_simp <;> with_reducible rfl)
                  try simp only [Act.put, zqd, zqe, zqf, zqa, zqb, zqc]
                  refine wpAnyH_take (i := 7) (v := ?_) rfl (by kernel_rfl) (by kernel_rfl) (by kernel_rfl) (fun _ _ _ h => h) (Or.inl ⟨by kernel_rfl, ?_⟩) (by assumption) ?_
                  rotate_left
                  · intro w'' hSw; (try dsimp only at hSw); simp only [zqa, zqb, zqc]; (go_simp <;> with_reducible rfl)
                  try simp only [Act.put, zqd, zqe, zqf, zqa, zqb, zqc]
                  refine wpAnyH_take (i := 8) (v := ?_) rfl (by kernel_rfl) (by kernel_rfl) (by kernel_rfl) (fun _ _ _ h => h) (Or.inl ⟨by kernel_rfl, ?_⟩) (by assumption) ?_
                  rotate_left
                  · intro w'' hSw; (try dsimp only at hSw); simp only [zqa, zqb, zqc]; (go_simp <;> with_reducible rfl)
                  try simp only [Act.put, zqd, zqe, zqf, zqa, zqb, zqc]
                  refine wpAnyH_take (i := 9) (v := ?_) rfl (by kernel_rfl) (by kernel_rfl) (by kernel_rfl) (fun _ _ _ h => h) (Or.inl ⟨by kernel_rfl, ?_⟩) (by assumption) ?_
                  rotate_left
                  · intro w'' hSw; (try dsimp only at hSw); simp only [zqa, zqb, zqc]; (go_simp <;> with_reducible rfl)
                  try simp only [Act.put, zqd, zqe, zqf, zqa, zqb, zqc]
                  refine wpAnyH_take (i := 10) (v := ?_) rfl (by kernel_rfl) (by kernel_rfl) (by kernel_rfl) (fun _ _ _ h => h) (Or.inl ⟨by kernel_rfl, ?_⟩) (by assumption) ?_
                  rotate_left
                  · intro w'' hSw; (try dsimp only at hSw); obtain ⟨d0, d1, d2, d3, d4, d5, d6, d7, d8, d9, d10, d11, d12, d13, d14, d15, d16⟩ := HCA.out _ (H10.out.2.trans hSw); simp only [zqa, zqb, zqc]; (go_simp <;> with_reducible rfl)
                  try simp only [Act.put, zqd, zqe, zqf, zqa, zqb, zqc]
                  refine wpAnyH_take (i := 11) (v := .bool true) rfl (by kernel_rfl) (by kernel_rfl) (by kernel_rfl) (fun _ _ _ h => h) (Or.inl ⟨by kernel_rfl, ?_⟩) (by assumption) ?_
                  · intro w'' hSw; (try dsimp only at hSw); simp only [zqa, zqb, zqc]; exact (by rw [← HT.out]; exact neq_vec (j := 114) (k := 119) rfl (by kernel_rfl) (by kernel_rfl))
                  try simp only [Act.put, zqd, zqe, zqf, zqa, zqb, zqc]
                  refine wpAnyH_take (i := 12) (v := ?_) rfl (by kernel_rfl) (by kernel_rfl) (by kernel_rfl) (fun _ _ _ h => h) (Or.inl ⟨by kernel_rfl, ?_⟩) (by assumption) ?_
                  rotate_left
                  · intro w'' hSw; (try dsimp only at hSw); simp only [zqa, zqb, zqc]; (go_simp <;> with_reducible rfl)
                  try simp only [Act.put, zqd, zqe, zqf, zqa, zqb, zqc]
                  refine wpAnyH_take (i := 13) (v := ?_) rfl (by kernel_rfl) (by kernel_rfl) (by kernel_rfl) (fun _ _ _ h => h) (Or.inl ⟨by kernel_rfl, ?_⟩) (by assumption) ?_
                  rotate_left
                  · intro w'' hSw; (try dsimp only at hSw); simp only [zqa, zqb, zqc]; (go_simp <;> with_reducible rfl)
                  try simp only [Act.put, zqd, zqe, zqf, zqa, zqb, zqc]
                  refine wpAnyH_take (i := 14) (v := ?_) rfl (by kernel_rfl) (by kernel_rfl) (by kernel_rfl) (fun _ _ _ h => h) (Or.inl ⟨by kernel_rfl, ?_⟩) (by assumption) ?_
                  rotate_left
                  · intro w'' hSw; (try dsimp only at hSw); simp only [zqa, zqb, zqc]; (go_simp <;> with_reducible rfl)
                  try simp only [Act.put, zqd, zqe, zqf, zqa, zqb, zqc]
                  refine wpAnyH_take (i := 15) (v := ?_) rfl (by kernel_rfl) (by kernel_rfl) (by kernel_rfl) (fun _ _ _ h => h) (Or.inl ⟨by kernel_rfl, ?_⟩) (by assumption) ?_
                  rotate_left
                  · intro w'' hSw; (try dsimp only at hSw); simp only [zqa, zqb, zqc]; (go_simp <;> with_reducible rfl)
                  try simp only [Act.put, zqd, zqe, zqf, zqa, zqb, zqc]
                  refine wpAnyH_take (i := 16) (v := ?_) rfl (by kernel_rfl) (by kernel_rfl) (by kernel_rfl) (fun _ _ _ h => h) (Or.inl ⟨by kernel_rfl, ?_⟩) (by assumption) ?_
                  rotate_left
                  · intro w'' hSw; (try dsimp only at hSw); simp only [zqa, zqb, zqc]; (go_simp <;> with_reducible rfl)
                  try simp only [Act.put, zqd, zqe, zqf, zqa, zqb, zqc]
                  refine wpAnyH_take (i := 17) (v := ?_) rfl (by kernel_rfl) (by kernel_rfl) (by kernel_rfl) (fun _ _ _ h => h) (Or.inl ⟨by kernel_rfl, ?_⟩) (by assumption) ?_
                  rotate_left
                  · intro w'' hSw; (try dsimp only at hSw); simp only [zqa, zqb, zqc]; (go_simp <;> with_reducible rfl)
                  try simp only [Act.put, zqd, zqe, zqf, zqa, zqb, zqc]
                  refine wpAnyH_take (i := 18) (v := ?_) rfl (by kernel_rfl) (by kernel_rfl) (by kernel_rfl) (fun _ _ _ h => h) (Or.inl ⟨by kernel_rfl, ?_⟩) (by assumption) ?_
                  rotate_left
                  · intro w'' hSw; (try dsimp only at hSw); obtain ⟨d0, d1, d2, d3, d4, d5, d6, d7, d8, d9, d10, d11, d12, d13, d14, d15, d16⟩ := HCA.out _ (H10.out.2.trans hSw); simp only [zqa, zqb, zqc]; (go_simp <;> with_reducible rfl)
                  try simp only [Act.put, zqd, zqe, zqf, zqa, zqb, zqc]
                  refine wpAnyH_take (i := 19) (v := ?_) rfl (by kernel_rfl) (by kernel_rfl) (by kernel_rfl) (fun _ _ _ h => h) (Or.inl ⟨by kernel_rfl, ?_⟩) (by assumption) ?_
                  rotate_left
                  · intro w'' hSw; (try dsimp only at hSw); simp only [zqa, zqb, zqc]; (go_simp <;> with_reducible rfl)
                  try simp only [Act.put, zqd, zqe, zqf, zqa, zqb, zqc]
                  refine wpAnyH_take (i := 20) (v := ?_) rfl (by kernel_rfl) (by kernel_rfl) (by kernel_rfl) (fun _ _ _ h => h) (Or.inl ⟨by kernel_rfl, ?_⟩) (by assumption) ?_
                  rotate_left
                  · intro w'' hSw; (try dsimp only at hSw); simp only [zqa, zqb, zqc]; (go_simp <;> with_reducible rfl)
                  try simp only [Act.put, zqd, zqe, zqf, zqa, zqb, zqc]
                  refine wpAnyH_take (i := 21) (v := ?_) rfl (by kernel_rfl) (by kernel_rfl) (by kernel_rfl) (fun _ _ _ h => h) (Or.inl ⟨by kernel_rfl, ?_⟩) (by assumption) ?_
                  rotate_left
                  · intro w'' hSw; (try dsimp only at hSw); simp only [zqa, zqb, zqc]; (go_simp <;> with_reducible rfl)
                  try simp only [Act.put, zqd, zqe, zqf, zqa, zqb, zqc]
                  refine wpAnyH_take (i := 22) (v := ?_) rfl (by kernel_rfl) (by kernel_rfl) (by kernel_rfl) (fun _ _ _ h => h) (Or.inl ⟨by kernel_rfl, ?_⟩) (by assumption) ?_
                  rotate_left
                  · intro w'' hSw; (try dsimp only at hSw); simp only [zqa, zqb, zqc]; (go_simp <;> with_reducible rfl)
                  try simp only [Act.put, zqd, zqe, zqf, zqa, zqb, zqc]
                  refine wpAnyH_take (i := 23) (v := ?_) rfl (by kernel_rfl) (by kernel_rfl) (by kernel_rfl) (fun _ _ _ h => h) (Or.inl ⟨by kernel_rfl, ?_⟩) (by assumption) ?_
                  rotate_left
                  · intro w'' hSw; (try dsimp only at hSw); obtain ⟨d0, d1, d2, d3, d4, d5, d6, d7, d8, d9, d10, d11, d12, d13, d14, d15, d16⟩ := HCA.out _ (H10.out.2.trans hSw); simp only [zqa, zqb, zqc]; (go_simp <;> with_reducible rfl)
                  try simp only [Act.put, zqd, zqe, zqf, zqa, zqb, zqc]
                  refine wpAnyH_take (i := 26) (v := ?_) rfl (by kernel_rfl) (by kernel_rfl) (by kernel_rfl) (fun _ _ _ h => h) (Or.inl ⟨by kernel_rfl, ?_⟩) (by assumption) ?_
                  rotate_left
                  · intro w'' hSw; (try dsimp only at hSw); simp only [zqa, zqb, zqc]; (go_simp <;> with_reducible rfl)
                  try simp only [Act.put, zqd, zqe, zqf, zqa, zqb, zqc]
                  refine wpAnyH_take (i := 27) (v := ?_) rfl (by kernel_rfl) (by kernel_rfl) (by kernel_rfl) (fun _ _ _ h => h) (Or.inl ⟨by kernel_rfl, ?_⟩) (by assumption) ?_
                  rotate_left
                  · intro w'' hSw; (try dsimp only at hSw); simp only [zqa, zqb, zqc]; (go_simp <;> with_reducible rfl)
                  try simp only [Act.put, zqd, zqe, zqf, zqa, zqb, zqc]
                  refine wpAnyH_take (i := 28) (v := ?_) rfl (by kernel_rfl) (by kernel_rfl) (by kernel_rfl) (fun _ _ _ h => h) (Or.inl ⟨by kernel_rfl, ?_⟩) (by assumption) ?_
                  rotate_left
                  · intro w'' hSw; (try dsimp only at hSw); simp only [zqa, zqb, zqc]; (go_simp <;> with_reducible rfl)
                  try simp only [Act.put, zqd, zqe, zqf, zqa, zqb, zqc]
                  refine wpAnyH_take (i := 29) (v := ?_) rfl (by kernel_rfl) (by kernel_rfl) (by kernel_rfl) (fun _ _ _ h => h) (Or.inl ⟨by kernel_rfl, ?_⟩) (by assumption) ?_
                  rotate_left
                  · intro w'' hSw; (try dsimp only at hSw); simp only [zqa, zqb, zqc]; (go_simp <;> with_reducible rfl)
                  try simp only [Act.put, zqd, zqe, zqf, zqa, zqb, zqc]
                  refine wpAnyH_take (i := 30) (v := ?_) rfl (by kernel_rfl) (by kernel_rfl) (by kernel_rfl) (fun _ _ _ h => h) (Or.inl ⟨by kernel_rfl, ?_⟩) (by assumption) ?_
                  rotate_left
                  · intro w'' hSw; (try dsimp only at hSw); obtain ⟨d0, d1, d2, d3, d4, d5, d6, d7, d8, d9, d10, d11, d12, d13, d14, d15, d16⟩ := HCA.out _ (H10.out.2.trans hSw); simp only [zqa, zqb, zqc]; (go_simp <;> with_reducible rfl)
                  try simp only [Act.put, zqd, zqe, zqf, zqa, zqb, zqc]
                  refine wpAnyH_take (i := 31) (v := ?_) rfl (by kernel_rfl) (by kernel_rfl) (by kernel_rfl) (fun _ _ _ h => h) (Or.inl ⟨by kernel_rfl, ?_⟩) (by assumption) ?_
                  rotate_left
                  · intro w'' hSw; (try dsimp only at hSw); simp only [zqa, zqb, zqc]; (go_simp <;> with_reducible rfl)
                  try simp only [Act.put, zqd, zqe, zqf, zqa, zqb, zqc]
                  refine wpAnyH_take (i := 32) (v := ?_) rfl (by kernel_rfl) (by kernel_rfl) (by kernel_rfl) (fun _ _ _ h => h) (Or.inl ⟨by kernel_rfl, ?_⟩) (by assumption) ?_
                  rotate_left
                  · intro w'' hSw; (try dsimp only at hSw); simp only [zqa, zqb, zqc]; (go_simp <;> with_reducible rfl)
                  try simp only [Act.put, zqd, zqe, zqf, zqa, zqb, zqc]
                  refine wpAnyH_take (i := 33) (v := ?_) rfl (by kernel_rfl) (by kernel_rfl) (by kernel_rfl) (fun _ _ _ h => h) (Or.inl ⟨by kernel_rfl, ?_⟩) (by assumption) ?_
                  rotate_left
                  · intro w'' hSw; (try dsimp only at hSw); simp only [zqa, zqb, zqc]; (go_simp <;> with_reducible rfl)
                  try simp only [Act.put, zqd, zqe, zqf, zqa, zqb, zqc]
                  refine wpAnyH_take (i := 34) (v := ?_) rfl (by kernel_rfl) (by kernel_rfl) (by kernel_rfl) (fun _ _ _ h => h) (Or.inl ⟨by kernel_rfl, ?_⟩) (by assumption) ?_
                  rotate_left
                  · intro w'' hSw; (try dsimp only at hSw); simp only [zqa, zqb, zqc]; (go_simp <;> with_reducible rfl)
                  try simp only [Act.put, zqd, zqe, zqf, zqa, zqb, zqc]
                  refine wpAnyH_take (i := 35) (v := ?_) rfl (by kernel_rfl) (by kernel_rfl) (by kernel_rfl) (fun _ _ _ h => h) (Or.inl ⟨by kernel_rfl, ?_⟩) (by assumption) ?_
                  rotate_left
                  · intro w'' hSw; (try dsimp only at hSw); obtain ⟨d0, d1, d2, d3, d4, d5, d6, d7, d8, d9, d10, d11, d12, d13, d14, d15, d16⟩ := HCA.out _ (H10.out.2.trans hSw); simp only [zqa, zqb, zqc]; (go_simp <;> with_reducible rfl)
                  try simp only [Act.put, zqd, zqe, zqf, zqa, zqb, zqc]
                  refine wpAnyH_ready (rs := [24]) (by kernel_rfl) (by simp) ?_
                  refine AllReadyH.cons rfl (fun K hK => ?_) AllReadyH.nil
                  first | (with_reducible refine iteYes ?hcx ?htx; case hcx => kernel_rfl) | rw [if_pos (by rfl)]
                  simp only [zqa, zqb, zqc]
                  go_simp
                  (go_at_call 13; refine (plus_calls _ _ _ _ _ _ _).mono ?_; rintro e w13 ⟨rfl, kk⟩; have Hw13 : Hid (Only [] w10 w13) := (Hw12.out.trans (Only.refl [] w12).drew).trans (Only.of_kept kk); clear kk)
                  try go_wp2_with fail
                  refine hK.out _ _ ?_ (fun hHeld2 => ?_)
                  · (try dsimp only); exact Hw13.out
                  clear hK K hHeld1
                  try simp only [Act.put, zqd, zqe, zqf, zqa, zqb, zqc]
                  refine wpAnyH_ready (rs := [25]) (by kernel_rfl) (by simp) ?_
                  refine AllReadyH.cons rfl (fun K hK => ?_) AllReadyH.nil
                  first | (with_reducible refine iteYes ?hcx ?htx; case hcx => kernel_rfl) | rw [if_pos (by rfl)]
                  simp only [zqa, zqb, zqc]
                  go_simp
                  (go_at_call 12; refine (clamp_calls _ _ _ _ _ (by decide)).mono ?_; rintro e w14 ⟨rfl, kk⟩; have Hw14 : Hid (Only [] w10 w14) := Hw13.out.trans (Only.of_kept kk); clear kk; simp only [bound_place])
                  try go_wp2_with fail
                  refine hK.out _ _ ?_ (fun hHeld3 => ?_)
                  · (try dsimp only); exact Hw14.out
                  clear hK K hHeld2
                  try simp only [Act.put, zqd, zqe, zqf, zqa, zqb, zqc]
                  refine wpAnyH_ready (rs := [36]) (by kernel_rfl) (by simp) ?_
                  refine AllReadyH.cons rfl (fun K hK => ?_) AllReadyH.nil
                  first | (with_reducible refine iteYes ?hcx ?htx; case hcx => kernel_rfl) | rw [if_pos (by rfl)]
                  simp only [zqa, zqb, zqc]
                  go_simp
                  (go_at_call 13; refine (plus_calls _ _ _ _ _ _ _).mono ?_; rintro e w15 ⟨rfl, kk⟩; have Hw15 : Hid (Only [] w10 w15) := Hw14.out.trans (Only.of_kept kk); clear kk)
                  try go_wp2_with fail
                  refine hK.out _ _ ?_ (fun hHeld4 => ?_)
                  · (try dsimp only); exact Hw15.out
                  clear hK K hHeld3
                  try simp only [Act.put, zqd, zqe, zqf, zqa, zqb, zqc]
                  refine wpAnyH_take (i := 37) (v := .bool false) rfl (by kernel_rfl) (by kernel_rfl) (by kernel_rfl) (fun _ _ _ h => h) (Or.inl ⟨by kernel_rfl, ?_⟩) (by assumption) ?_
                  · intro w'' hSw; (try dsimp only at hSw); simp only [zqa, zqb, zqc]; exact (by rw [← HF.out]; exact eql_vec (j := 134) (k := 145) rfl (by kernel_rfl) (by kernel_rfl))
                  try simp only [Act.put, zqd, zqe, zqf, zqa, zqb, zqc]
                  refine wpAnyH_take (i := 38) (v := ?_) rfl (by kernel_rfl) (by kernel_rfl) (by kernel_rfl) (fun _ _ _ h => h) (Or.inl ⟨by kernel_rfl, ?_⟩) (by assumption) ?_
                  rotate_left
                  · intro w'' hSw; (try dsimp only at hSw); simp only [zqa, zqb, zqc]; (go_simp <;> with_reducible rfl)
                  try simp only [Act.put, zqd, zqe, zqf, zqa, zqb, zqc]
                  refine wpAnyH_done (by kernel_rfl) ?_ _
                  go_wp2_with fail
                  go_meet
                  case rel => exact ⟨rfl, H10.out.2.trans Hw15.out⟩
            · have hmb : (q.ms == 0) = false := by simpa using hms
              clear hms
              as_aux_lemma =>
                refine wp_region_held_drew (S := (fun w' => Only [] w10 w')) (by kernel_rfl) ?_ (fun hHeld1 => ?_)
                · (try dsimp only); exact Hw12.out.trans (Only.refl [] w12).drew
                refine wpAnyH_take (i := 0) (v := ?_) rfl (by kernel_rfl) (by kernel_rfl) (by kernel_rfl) (fun _ _ _ h => h) (Or.inl ⟨by kernel_rfl, ?_⟩) (by assumption) ?_
                rotate_left
                · intro w'' hSw; (try dsimp only at hSw); simp only [zqa, zqb, zqc]; (go_simp <;> with_reducible rfl)
                try simp only [Act.put, zqd, zqe, zqf, zqa, zqb, zqc]
                refine wpAnyH_take (i := 1) (v := ?_) rfl (by kernel_rfl) (by kernel_rfl) (by kernel_rfl) (fun _ _ _ h => h) (Or.inl ⟨by kernel_rfl, ?_⟩) (by assumption) ?_
                rotate_left
                · intro w'' hSw; (try dsimp only at hSw); have d15 := (HQ.out _ hSw).off 15; simp only [zqg, zqh, zqi] at d15; simp only [zqa, zqb, zqc]; (go_simp <;> with_reducible rfl)
                try simp only [Act.put, zqd, zqe, zqf, zqa, zqb, zqc]
                refine wpAnyH_take (i := 2) (v := ?_) rfl (by kernel_rfl) (by kernel_rfl) (by kernel_rfl) (fun _ _ _ h => h) (Or.inl ⟨by kernel_rfl, ?_⟩) (by assumption) ?_
                rotate_left
                · intro w'' hSw; (try dsimp only at hSw); simp only [zqa, zqb, zqc]; (go_simp <;> with_reducible rfl)
                try simp only [Act.put, zqd, zqe, zqf, zqa, zqb, zqc]
                refine wpAnyH_take (i := 3) (v := ?_) rfl (by kernel_rfl) (by kernel_rfl) (by kernel_rfl) (fun _ _ _ h => h) (Or.inl ⟨by kernel_rfl, ?_⟩) (by assumption) ?_
                rotate_left
                · intro w'' hSw; (try dsimp only at hSw); simp only [zqa, zqb, zqc]; (go_simp <;> with_reducible rfl)
                try simp only [Act.put, zqd, zqe, zqf, zqa, zqb, zqc]
                refine wpAnyH_take (i := 4) (v := undef) rfl (by kernel_rfl) (by kernel_rfl) (by kernel_rfl) (fun _ _ _ h => h) (Or.inr ⟨by kernel_rfl, rfl⟩) (by assumption) ?_
                try simp only [Act.put, zqd, zqe, zqf, zqa, zqb, zqc]
                refine wpAnyH_take (i := 5) (v := undef) rfl (by kernel_rfl) (by kernel_rfl) (by kernel_rfl) (fun _ _ _ h => h) (Or.inr ⟨by kernel_rfl, rfl⟩) (by assumption) ?_
                try simp only [Act.put, zqd, zqe, zqf, zqa, zqb, zqc]
                refine wpAnyH_take (i := 6) (v := undef) rfl (by kernel_rfl) (by kernel_rfl) (by kernel_rfl) (fun _ _ _ h => h) (Or.inr ⟨by kernel_rfl, rfl⟩) (by assumption) ?_
                try simp only [Act.put, zqd, zqe, zqf, zqa, zqb, zqc]
                refine wpAnyH_take (i := 7) (v := undef) rfl (by kernel_rfl) (by kernel_rfl) (by kernel_rfl) (fun _ _ _ h => h) (Or.inr ⟨by kernel_rfl, rfl⟩) (by assumption) ?_
                try simp only [Act.put, zqd, zqe, zqf, zqa, zqb, zqc]
                refine wpAnyH_take (i := 8) (v := undef) rfl (by kernel_rfl) (by kernel_rfl) (by kernel_rfl) (fun _ _ _ h => h) (Or.inr ⟨by kernel_rfl, rfl⟩) (by assumption) ?_
                try simp only [Act.put, zqd, zqe, zqf, zqa, zqb, zqc]
                refine wpAnyH_take (i := 9) (v := undef) rfl (by kernel_rfl) (by kernel_rfl) (by kernel_rfl) (fun _ _ _ h => h) (Or.inr ⟨by kernel_rfl, rfl⟩) (by assumption) ?_
                try simp only [Act.put, zqd, zqe, zqf, zqa, zqb, zqc]
                refine wpAnyH_take (i := 10) (v := undef) rfl (by kernel_rfl) (by kernel_rfl) (by kernel_rfl) (fun _ _ _ h => h) (Or.inr ⟨by kernel_rfl, rfl⟩) (by assumption) ?_
                try simp only [Act.put, zqd, zqe, zqf, zqa, zqb, zqc]
                refine wpAnyH_take (i := 11) (v := undef) rfl (by kernel_rfl) (by kernel_rfl) (by kernel_rfl) (fun _ _ _ h => h) (Or.inr ⟨by kernel_rfl, rfl⟩) (by assumption) ?_
                try simp only [Act.put, zqd, zqe, zqf, zqa, zqb, zqc]
                refine wpAnyH_take (i := 12) (v := ?_) rfl (by kernel_rfl) (by kernel_rfl) (by kernel_rfl) (fun _ _ _ h => h) (Or.inl ⟨by kernel_rfl, ?_⟩) (by assumption) ?_
                rotate_left
                · intro w'' hSw; (try dsimp only at hSw); simp only [zqa, zqb, zqc]; (go_simp <;> with_reducible rfl)
                try simp only [Act.put, zqd, zqe, zqf, zqa, zqb, zqc]
                refine wpAnyH_take (i := 13) (v := ?_) rfl (by kernel_rfl) (by kernel_rfl) (by kernel_rfl) (fun _ _ _ h => h) (Or.inl ⟨by kernel_rfl, ?_⟩) (by assumption) ?_
                rotate_left
                · intro w'' hSw; (try dsimp only at hSw); simp only [zqa, zqb, zqc]; (go_simp <;> with_reducible rfl)
                try simp only [Act.put, zqd, zqe, zqf, zqa, zqb, zqc]
                refine wpAnyH_take (i := 14) (v := undef) rfl (by kernel_rfl) (by kernel_rfl) (by kernel_rfl) (fun _ _ _ h => h) (Or.inr ⟨by kernel_rfl, rfl⟩) (by assumption) ?_
                try simp only [Act.put, zqd, zqe, zqf, zqa, zqb, zqc]
                refine wpAnyH_take (i := 15) (v := undef) rfl (by kernel_rfl) (by kernel_rfl) (by kernel_rfl) (fun _ _ _ h => h) (Or.inr ⟨by kernel_rfl, rfl⟩) (by assumption) ?_
                try simp only [Act.put, zqd, zqe, zqf, zqa, zqb, zqc]
                refine wpAnyH_take (i := 16) (v := undef) rfl (by kernel_rfl) (by kernel_rfl) (by kernel_rfl) (fun _ _ _ h => h) (Or.inr ⟨by kernel_rfl, rfl⟩) (by assumption) ?_
                try simp only [Act.put, zqd, zqe, zqf, zqa, zqb, zqc]
                refine wpAnyH_take (i := 17) (v := undef) rfl (by kernel_rfl) (by kernel_rfl) (by kernel_rfl) (fun _ _ _ h => h) (Or.inr ⟨by kernel_rfl, rfl⟩) (by assumption) ?_
                try simp only [Act.put, zqd, zqe, zqf, zqa, zqb, zqc]
                refine wpAnyH_take (i := 18) (v := undef) rfl (by kernel_rfl) (by kernel_rfl) (by kernel_rfl) (fun _ _ _ h => h) (Or.inr ⟨by kernel_rfl, rfl⟩) (by assumption) ?_
                try simp only [Act.put, zqd, zqe, zqf, zqa, zqb, zqc]
                refine wpAnyH_take (i := 19) (v := undef) rfl (by kernel_rfl) (by kernel_rfl) (by kernel_rfl) (fun _ _ _ h => h) (Or.inr ⟨by kernel_rfl, rfl⟩) (by assumption) ?_
                try simp only [Act.put, zqd, zqe, zqf, zqa, zqb, zqc]
                refine wpAnyH_take (i := 20) (v := undef) rfl (by kernel_rfl) (by kernel_rfl) (by kernel_rfl) (fun _ _ _ h => h) (Or.inr ⟨by kernel_rfl, rfl⟩) (by assumption) ?_
                try simp only [Act.put, zqd, zqe, zqf, zqa, zqb, zqc]
                refine wpAnyH_take (i := 21) (v := undef) rfl (by kernel_rfl) (by kernel_rfl) (by kernel_rfl) (fun _ _ _ h => h) (Or.inr ⟨by kernel_rfl, rfl⟩) (by assumption) ?_
                try simp only [Act.put, zqd, zqe, zqf, zqa, zqb, zqc]
                refine wpAnyH_take (i := 22) (v := undef) rfl (by kernel_rfl) (by kernel_rfl) (by kernel_rfl) (fun _ _ _ h => h) (Or.inr ⟨by kernel_rfl, rfl⟩) (by assumption) ?_
                try simp only [Act.put, zqd, zqe, zqf, zqa, zqb, zqc]
                refine wpAnyH_take (i := 23) (v := undef) rfl (by kernel_rfl) (by kernel_rfl) (by kernel_rfl) (fun _ _ _ h => h) (Or.inr ⟨by kernel_rfl, rfl⟩) (by assumption) ?_
                try simp only [Act.put, zqd, zqe, zqf, zqa, zqb, zqc]
                refine wpAnyH_take (i := 24) (v := undef) rfl (by kernel_rfl) (by kernel_rfl) (by kernel_rfl) (fun _ _ _ h => h) (Or.inr ⟨by kernel_rfl, rfl⟩) (by assumption) ?_
                try simp only [Act.put, zqd, zqe, zqf, zqa, zqb, zqc]
                refine wpAnyH_take (i := 25) (v := undef) rfl (by kernel_rfl) (by kernel_rfl) (by kernel_rfl) (fun _ _ _ h => h) (Or.inr ⟨by kernel_rfl, rfl⟩) (by assumption) ?_
                try simp only [Act.put, zqd, zqe, zqf, zqa, zqb, zqc]
                refine wpAnyH_take (i := 26) (v := undef) rfl (by kernel_rfl) (by kernel_rfl) (by kernel_rfl) (fun _ _ _ h => h) (Or.inr ⟨by kernel_rfl, rfl⟩) (by assumption) ?_
                try simp only [Act.put, zqd, zqe, zqf, zqa, zqb, zqc]
                refine wpAnyH_take (i := 27) (v := undef) rfl (by kernel_rfl) (by kernel_rfl) (by kernel_rfl) (fun _ _ _ h => h) (Or.inr ⟨by kernel_rfl, rfl⟩) (by assumption) ?_
                try simp only [Act.put, zqd, zqe, zqf, zqa, zqb, zqc]
                refine wpAnyH_take (i := 28) (v := undef) rfl (by kernel_rfl) (by kernel_rfl) (by kernel_rfl) (fun _ _ _ h => h) (Or.inr ⟨by kernel_rfl, rfl⟩) (by assumption) ?_
                try simp only [Act.put, zqd, zqe, zqf, zqa, zqb, zqc]
                refine wpAnyH_take (i := 29) (v := undef) rfl (by kernel_rfl) (by kernel_rfl) (by kernel_rfl) (fun _ _ _ h => h) (Or.inr ⟨by kernel_rfl, rfl⟩) (by assumption) ?_
                try simp only [Act.put, zqd, zqe, zqf, zqa, zqb, zqc]
                refine wpAnyH_take (i := 30) (v := undef) rfl (by kernel_rfl) (by kernel_rfl) (by kernel_rfl) (fun _ _ _ h => h) (Or.inr ⟨by kernel_rfl, rfl⟩) (by assumption) ?_
                try simp only [Act.put, zqd, zqe, zqf, zqa, zqb, zqc]
                refine wpAnyH_take (i := 31) (v := undef) rfl (by kernel_rfl) (by kernel_rfl) (by kernel_rfl) (fun _ _ _ h => h) (Or.inr ⟨by kernel_rfl, rfl⟩) (by assumption) ?_
                try simp only [Act.put, zqd, zqe, zqf, zqa, zqb, zqc]
                refine wpAnyH_take (i := 32) (v := undef) rfl (by kernel_rfl) (by kernel_rfl) (by kernel_rfl) (fun _ _ _ h => h) (Or.inr ⟨by kernel_rfl, rfl⟩) (by assumption) ?_
                try simp only [Act.put, zqd, zqe, zqf, zqa, zqb, zqc]
                refine wpAnyH_take (i := 33) (v := undef) rfl (by kernel_rfl) (by kernel_rfl) (by kernel_rfl) (fun _ _ _ h => h) (Or.inr ⟨by kernel_rfl, rfl⟩) (by assumption) ?_
                try simp only [Act.put, zqd, zqe, zqf, zqa, zqb, zqc]
                refine wpAnyH_take (i := 34) (v := undef) rfl (by kernel_rfl) (by kernel_rfl) (by kernel_rfl) (fun _ _ _ h => h) (Or.inr ⟨by kernel_rfl, rfl⟩) (by assumption) ?_
                try simp only [Act.put, zqd, zqe, zqf, zqa, zqb, zqc]
                refine wpAnyH_take (i := 35) (v := undef) rfl (by kernel_rfl) (by kernel_rfl) (by kernel_rfl) (fun _ _ _ h => h) (Or.inr ⟨by kernel_rfl, rfl⟩) (by assumption) ?_
                try simp only [Act.put, zqd, zqe, zqf, zqa, zqb, zqc]
                refine wpAnyH_take (i := 36) (v := undef) rfl (by kernel_rfl) (by kernel_rfl) (by kernel_rfl) (fun _ _ _ h => h) (Or.inr ⟨by kernel_rfl, rfl⟩) (by assumption) ?_
                try simp only [Act.put, zqd, zqe, zqf, zqa, zqb, zqc]
                refine wpAnyH_take (i := 37) (v := undef) rfl (by kernel_rfl) (by kernel_rfl) (by kernel_rfl) (fun _ _ _ h => h) (Or.inr ⟨by kernel_rfl, rfl⟩) (by assumption) ?_
                try simp only [Act.put, zqd, zqe, zqf, zqa, zqb, zqc]
                refine wpAnyH_take (i := 38) (v := ?_) rfl (by kernel_rfl) (by kernel_rfl) (by kernel_rfl) (fun _ _ _ h => h) (Or.inl ⟨by kernel_rfl, ?_⟩) (by assumption) ?_
                rotate_left
                · intro w'' hSw; (try dsimp only at hSw); simp only [zqa, zqb, zqc]; (go_simp <;> with_reducible rfl)
                try simp only [Act.put, zqd, zqe, zqf, zqa, zqb, zqc]
                refine wpAnyH_done (by kernel_rfl) ?_ _
                go_wp2_with fail
                go_meet
                case rel => exact ⟨rfl, H10.out.2.trans (Hw12.out.trans (Only.refl [] w12).drew)⟩
          case rest =>
            obtain ⟨rfl, ho⟩ := hcut
            have HOC : Hid (Only [] w9 wc) := ho
            clear ho H10 HQ HCA HCL HONE
            go_wp2_with fail
            go_roundg (m - (j + 1))
            case measure => have := HJ.out.2; omega
            case rel => exact ⟨j + 1, by go_num, ⟨by omega, rfl⟩, HOC⟩
        · have hjl : ¬ (j : Int) < (m : Int) := by omega
          go_wp2_with fail
          go_roundg (21 - (i + 1))
          case measure => have := H6.out.2; omega
          case rel =>
            refine ⟨i + 1, g8, a8, cap8, stepW cc B m M, hangM (stepW cc B m M) M m, D8, by go_num, ⟨by omega, rfl⟩, ?_⟩
            have e2 : ((i + 1 : Nat) : Int) = (i : Int) + 1 := by omega
            rw [e2]
            exact H9.out.1.keep HO.out
    · have hip2 : decide ((i : Int) < 1 + p) = false := by simpa using hip
      clear hip
      go_wp2_with fail
      go_ret
      exact ⟨rfl, HL.out.2.2.trans HW6.out.ww.only⟩
end Go.Proofs.YtbfkloclmlnahabGreat

namespace Go.Proofs.YtbfkloclmlnahabGreat.SvF
open Go.ChangeShapes Go.WideShapes Go.ChangeAt Go.RowKit Go.Joins Go.Deep
set_option linter.unusedVariables false

theorem own : ownKnob Tryz.prog.godebug = none := by kernel_rfl
theorem laidOut : laidOutB Tryz.prog = true := by kernel_rfl
theorem cellsInt : Tryz.prog.cellsOf 3 = 1 := by kernel_rfl
theorem cellsVec : Tryz.prog.cellsOf 24 = 3 := by kernel_rfl
theorem cellsShape : Tryz.prog.cellsOf 35 = 4 := by kernel_rfl
theorem cellsBody : Tryz.prog.cellsOf 37 = 17 := by kernel_rfl
section
variable {H : Type} {P : Program} {enc : TypeId × Value → H} {w : World} {base : Nat} {sp : Nat → Bool} {held : Bool}
theorem trod_struct8 {t : TypeId} {f0 f1 f2 f3 f4 f5 f6 f7 : Field} {fuel : Nat} {cs : List Value} {x : DataW H × List MemPlace} (ht : P.underlying t = some (.struct #[f0, f1, f2, f3, f4, f5, f6, f7])) (h : DataW.trod enc P w base sp held fuel t cs = some x) :
    ∃ y0 y1 y2 y3 y4 y5 y6 y7 n, cs.length = P.cellsOf t ∧ DataW.trod enc P w base sp held n f0.type ((cs.drop f0.offset).take (P.cellsOf f0.type)) = some y0 ∧ DataW.trod enc P w base sp held n f1.type ((cs.drop f1.offset).take (P.cellsOf f1.type)) = some y1 ∧ DataW.trod enc P w base sp held n f2.type ((cs.drop f2.offset).take (P.cellsOf f2.type)) = some y2 ∧ DataW.trod enc P w base sp held n f3.type ((cs.drop f3.offset).take (P.cellsOf f3.type)) = some y3 ∧ DataW.trod enc P w base sp held n f4.type ((cs.drop f4.offset).take (P.cellsOf f4.type)) = some y4 ∧ DataW.trod enc P w base sp held n f5.type ((cs.drop f5.offset).take (P.cellsOf f5.type)) = some y5 ∧ DataW.trod enc P w base sp held n f6.type ((cs.drop f6.offset).take (P.cellsOf f6.type)) = some y6 ∧ DataW.trod enc P w base sp held n f7.type ((cs.drop f7.offset).take (P.cellsOf f7.type)) = some y7 := by
  obtain ⟨xs, n, _, rfl, hl, hlen, hf⟩ := DataW.trod_struct ht h
  match xs, hlen with
  | [y0, y1, y2, y3, y4, y5, y6, y7], _ => exact ⟨y0, y1, y2, y3, y4, y5, y6, y7, n, hl, by simpa using hf 0 f0 rfl, by simpa using hf 1 f1 rfl, by simpa using hf 2 f2 rfl, by simpa using hf 3 f3 rfl, by simpa using hf 4 f4 rfl, by simpa using hf 5 f5 rfl, by simpa using hf 6 f6 rfl, by simpa using hf 7 f7 rfl⟩
end
section
variable {H : Type} {enc : TypeId × Value → H} {w : World} {base : Nat} {sp : Nat → Bool} {held : Bool}
theorem int_open {fuel : Nat} {cs : List Value} {x : DataW H × List MemPlace} (h : DataW.trod enc Tryz.prog w base sp held fuel 3 cs = some x) : ∃ a, cs = [.int .i64 a] ∧ (Lit.int .i64 a).wf = true := by
  obtain ⟨a, e, _, hw⟩ := DataW.trod_int Tryz.underlying3 h
  exact ⟨a, e, hw⟩
set_option maxRecDepth 100000 in
theorem vec_open {fuel : Nat} {cs : List Value} {x : DataW H × List MemPlace} (h : DataW.trod enc Tryz.prog w base sp held fuel 24 cs = some x) : ∃ a b c, cs = [.int .i64 a, .int .i64 b, .int .i64 c] := by
  obtain ⟨y0, y1, y2, n, rfl, hl, h0, h1, h2⟩ := trod_struct3 Tryz.underlying24 h
  rw [cellsVec] at hl
  match cs, hl with
  | [c0, c1, c2], _ =>
    simp only [cellsInt] at h0 h1 h2
    obtain ⟨a, e0, _⟩ := int_open h0
    obtain ⟨b, e1, _⟩ := int_open h1
    obtain ⟨c, e2, _⟩ := int_open h2
    simp at e0 e1 e2
    subst e0 e1 e2
    exact ⟨a, b, c, rfl⟩
set_option maxRecDepth 100000 in
theorem shape_open {fuel : Nat} {cs : List Value} {x : DataW H × List MemPlace} (h : DataW.trod enc Tryz.prog w base sp held fuel 35 cs = some x) : ∃ k a b c, cs = [.int .i64 k, .int .i64 a, .int .i64 b, .int .i64 c] := by
  obtain ⟨y0, y1, n, rfl, hl, h0, h1⟩ := trod_struct2 Tryz.underlying35 h
  rw [cellsShape] at hl
  match cs, hl with
  | [c0, c1, c2, c3], _ =>
    simp only [cellsInt, cellsVec] at h0 h1
    obtain ⟨k, e0, _⟩ := int_open h0
    obtain ⟨a, b, c, e1⟩ := vec_open h1
    simp at e0 e1
    obtain ⟨rfl, rfl, rfl⟩ := e1
    subst e0
    exact ⟨k, a, b, c, rfl⟩
set_option maxRecDepth 100000 in
theorem body_open {fuel : Nat} {cs : List Value} {x : DataW H × List MemPlace} (h : DataW.trod enc Tryz.prog w base sp held fuel 37 cs = some x) : ∃ q : Bd, In64S q.id ∧ cs = bdL q := by
  obtain ⟨y0, y1, y2, y3, y4, y5, y6, y7, n, hl, h0, h1, h2, h3, h4, h5, h6, h7⟩ := trod_struct8 Tryz.underlying37 h
  rw [cellsBody] at hl
  match cs, hl with
  | [c0, c1, c2, c3, c4, c5, c6, c7, c8, c9, c10, c11, c12, c13, c14, c15, c16], _ =>
    simp only [cellsInt, cellsVec, cellsShape] at h0 h1 h2 h3 h4 h5 h6 h7
    obtain ⟨a0, e0, hw⟩ := int_open h0
    obtain ⟨a1, e1, _⟩ := int_open h1
    obtain ⟨s0, s1, s2, s3, e2⟩ := shape_open h2
    obtain ⟨p0, p1, p2, e3⟩ := vec_open h3
    obtain ⟨v0, v1, v2, e4⟩ := vec_open h4
    obtain ⟨u0, u1, u2, e5⟩ := vec_open h5
    obtain ⟨a6, e6, _⟩ := int_open h6
    obtain ⟨a7, e7, _⟩ := int_open h7
    simp at e0 e1 e2 e3 e4 e5 e6 e7
    obtain ⟨rfl, rfl, rfl, rfl⟩ := e2
    obtain ⟨rfl, rfl, rfl⟩ := e3
    obtain ⟨rfl, rfl, rfl⟩ := e4
    obtain ⟨rfl, rfl, rfl⟩ := e5
    subst e0 e1 e6 e7
    exact ⟨⟨a0, a1, s0, s1, s2, s3, p0, p1, p2, v0, v1, v2, u0, u1, u2, a6, a7⟩, hw, rfl⟩
set_option maxRecDepth 100000 in
/-- The bodies of a slice that came in. -/
theorem bodies_open {fuel : Nat} {a : Option Addr} {len cap : Nat} {x : DataW H × List MemPlace} (h : DataW.trod enc Tryz.prog w 0 (fun _ => true) true fuel 22 [.slice a len cap] = some x) : ∃ B, BodiesAt w a len B ∧ (∀ j, j < len → In64S (B j).id) ∧ (a = none → len = 0 ∧ cap = 0) := by
  rcases open_slice Tryz.underlying22 h with ⟨e, _⟩ | ⟨ad, len', cap', m, n, D, Pl, e, hb, hl, hm, hmm, _, hx⟩
  · simp at e
    obtain ⟨rfl, rfl, rfl⟩ := e
    exact ⟨fun _ => bd0, fun j hj => by omega, fun j hj => by omega, fun _ => ⟨rfl, rfl⟩⟩
  · simp at e
    obtain ⟨rfl, rfl, rfl⟩ := e
    simp only [if_true] at hmm
    subst hmm
    have key : ∀ j, ∃ z : Bd, j < len → In64S z.id ∧ ∃ b o, some ad = some ⟨b, o, none⟩ ∧ ∀ k, k < 17 → w.cell? ⟨b, o + j * 17 + k, none⟩ = some (bc z k) := by
      intro j
      by_cases hj : j < len
      · obtain ⟨cs, hc, ht⟩ := hx j (by omega)
        rw [cellsBody] at hc
        obtain ⟨q, hi, rfl⟩ := body_open ht
        obtain ⟨_, _, hcell⟩ := World.cells?_some hc
        refine ⟨q, fun _ => ⟨hi, ?_⟩⟩
        obtain ⟨b, o, spot⟩ := ad
        cases spot with
        | some s =>
          exfalso
          obtain ⟨cs0, hc0, ht0⟩ := hx 0 (by omega)
          rw [cellsBody] at hc0
          obtain ⟨q', _, rfl⟩ := body_open ht0
          obtain ⟨_, _, hcell0⟩ := World.cells?_some hc0
          have k := hcell0 0 (by omega)
          simp only [Addr.add, Nat.zero_mul, if_true, World.cell?, Option.isSome_some, bdL, zqi] at k
          split at k <;> cases k
        | none =>
          refine ⟨b, o, rfl, fun k hk => ?_⟩
          have k0 := hcell k hk
          rw [add_plain, add_plain, bdL_at q k hk] at k0
          exact k0
      · exact ⟨bd0, fun h => absurd h hj⟩
    exact ⟨fun j => (key j).choose, fun j hj => ((key j).choose_spec hj).2, fun j hj => ((key j).choose_spec hj).1, fun e => by cases e⟩
end
end Go.Proofs.YtbfkloclmlnahabGreat.SvF
