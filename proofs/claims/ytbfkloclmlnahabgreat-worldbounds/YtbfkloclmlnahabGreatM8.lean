/- world.move: what it does to a body of a slice. · (*world.World).each, with drive and with move: all bodies of a world. · A whole tree of broad as it lies in memory: its nodes, its book of leaves; broad.New and Tree.Remove: whatever the tree and the number. · broad.Tree.Remove: the box of that number is gone, or there was none: whatever the tree and the number. · broad.Tree.Put: the box of that number is the new one, or an error tells what is wrong: whatever the tree, the number and the box. · broad.Tree.Put, at a tree that has boxes: whatever they are. -/
import Derived.Test.YtbfkloclmlnahabGreatM7
import Derived.Deep.CutRange
import Derived.Test.YtbfkloclmlnahabGreatM4
import Derived.Maps.OwnSet
open List renaming getElem_toArray → zqa, getElem_cons_succ → zqb, getElem_cons_zero → zqc, setIfInBounds_toArray → zqd, set_cons_zero → zqe, set_cons_succ → zqf, getElem?_toArray → zqg, getElem?_cons_succ → zqh, getElem?_cons_zero → zqi
namespace Go.Proofs.YtbfkloclmlnahabGreat
open Go.ChangeShapes Go.WideShapes Go.ChangeAt Go.RowKit
set_option linter.unusedVariables false
set_option linter.unusedSimpArgs false

def setX (b : Bd) (x : Int) : Bd := { b with vx := x }
theorem OwnB.putX {w : World} {g n : Nat} {B : Nat → Bd} (h : OwnB w g n B) {i : Nat} (hi : i < n) (x : Int) : OwnB (w.setCell ⟨g, i * 17 + 9, none⟩ (.int .i64 x)) g n (upd B i (setX (B i) x)) := by
  have h1 := RowF.set (F := fun j k => bc (B j) k) h hi (show 9 < 17 by omega) (.int .i64 x)
  refine RowF.congr h1 (fun j k hj hk => ?_)
  by_cases e : j = i
  · subst e
    rw [bc_upd, if_pos rfl]
    match k, hk with
    | 0, _ => simp [bc, setX]
    | 1, _ => simp [bc, setX]
    | 2, _ => simp [bc, setX]
    | 3, _ => simp [bc, setX]
    | 4, _ => simp [bc, setX]
    | 5, _ => simp [bc, setX]
    | 6, _ => simp [bc, setX]
    | 7, _ => simp [bc, setX]
    | 8, _ => simp [bc, setX]
    | 9, _ => simp [bc, setX]
    | 10, _ => simp [bc, setX]
    | 11, _ => simp [bc, setX]
    | 12, _ => simp [bc, setX]
    | 13, _ => simp [bc, setX]
    | 14, _ => simp [bc, setX]
    | 15, _ => simp [bc, setX]
    | 16, _ => simp [bc, setX]
    | k + 17, h => exact absurd h (by omega)
  · rw [bc_upd]; simp [e]
def setY (b : Bd) (x : Int) : Bd := { b with vy := x }
theorem OwnB.putY {w : World} {g n : Nat} {B : Nat → Bd} (h : OwnB w g n B) {i : Nat} (hi : i < n) (x : Int) : OwnB (w.setCell ⟨g, i * 17 + 10, none⟩ (.int .i64 x)) g n (upd B i (setY (B i) x)) := by
  have h1 := RowF.set (F := fun j k => bc (B j) k) h hi (show 10 < 17 by omega) (.int .i64 x)
  refine RowF.congr h1 (fun j k hj hk => ?_)
  by_cases e : j = i
  · subst e
    rw [bc_upd, if_pos rfl]
    match k, hk with
    | 0, _ => simp [bc, setY]
    | 1, _ => simp [bc, setY]
    | 2, _ => simp [bc, setY]
    | 3, _ => simp [bc, setY]
    | 4, _ => simp [bc, setY]
    | 5, _ => simp [bc, setY]
    | 6, _ => simp [bc, setY]
    | 7, _ => simp [bc, setY]
    | 8, _ => simp [bc, setY]
    | 9, _ => simp [bc, setY]
    | 10, _ => simp [bc, setY]
    | 11, _ => simp [bc, setY]
    | 12, _ => simp [bc, setY]
    | 13, _ => simp [bc, setY]
    | 14, _ => simp [bc, setY]
    | 15, _ => simp [bc, setY]
    | 16, _ => simp [bc, setY]
    | k + 17, h => exact absurd h (by omega)
  · rw [bc_upd]; simp [e]
def setZ (b : Bd) (x : Int) : Bd := { b with vz := x }
theorem OwnB.putZ {w : World} {g n : Nat} {B : Nat → Bd} (h : OwnB w g n B) {i : Nat} (hi : i < n) (x : Int) : OwnB (w.setCell ⟨g, i * 17 + 11, none⟩ (.int .i64 x)) g n (upd B i (setZ (B i) x)) := by
  have h1 := RowF.set (F := fun j k => bc (B j) k) h hi (show 11 < 17 by omega) (.int .i64 x)
  refine RowF.congr h1 (fun j k hj hk => ?_)
  by_cases e : j = i
  · subst e
    rw [bc_upd, if_pos rfl]
    match k, hk with
    | 0, _ => simp [bc, setZ]
    | 1, _ => simp [bc, setZ]
    | 2, _ => simp [bc, setZ]
    | 3, _ => simp [bc, setZ]
    | 4, _ => simp [bc, setZ]
    | 5, _ => simp [bc, setZ]
    | 6, _ => simp [bc, setZ]
    | 7, _ => simp [bc, setZ]
    | 8, _ => simp [bc, setZ]
    | 9, _ => simp [bc, setZ]
    | 10, _ => simp [bc, setZ]
    | 11, _ => simp [bc, setZ]
    | 12, _ => simp [bc, setZ]
    | 13, _ => simp [bc, setZ]
    | 14, _ => simp [bc, setZ]
    | 15, _ => simp [bc, setZ]
    | 16, _ => simp [bc, setZ]
    | k + 17, h => exact absurd h (by omega)
  · rw [bc_upd]; simp [e]
/-- Carried on by its speed, and stopped where the world ends. -/
def moveB (q : Bd) : Bd := { q with ax := cl 65536000 (add q.ax q.vx), ay := cl 65536000 (add q.ay q.vy), az := cl 65536000 (add q.az q.vz), vx := if cl 65536000 (add q.ax q.vx) = add q.ax q.vx then q.vx else 0, vy := if cl 65536000 (add q.ay q.vy) = add q.ay q.vy then q.vy else 0, vz := if cl 65536000 (add q.az q.vz) = add q.az q.vz then q.vz else 0 }
theorem upd_twice (C : Nat → Bd) (i : Nat) (b d : Bd) : upd (upd C i b) i d = upd C i d := by funext j; unfold upd; split <;> rfl
def MovAt (g i : Nat) (q : Bd) (w' : World) : Prop := w'.cell? ⟨g, i * 17 + 6, none⟩ = some (.int .i64 (q.ax)) ∧ w'.cell? ⟨g, i * 17 + 7, none⟩ = some (.int .i64 (q.ay)) ∧ w'.cell? ⟨g, i * 17 + 8, none⟩ = some (.int .i64 (q.az)) ∧ w'.cell? ⟨g, i * 17 + 9, none⟩ = some (.int .i64 (q.vx)) ∧ w'.cell? ⟨g, i * 17 + 10, none⟩ = some (.int .i64 (q.vy)) ∧ w'.cell? ⟨g, i * 17 + 11, none⟩ = some (.int .i64 (q.vz))
theorem MovAt.step {g i : Nat} {q : Bd} {w w' : World} (h : MovAt g i q w) (k : Kept w w') : MovAt g i q w' := ⟨kept_cell k h.1, kept_cell k h.2.1, kept_cell k h.2.2.1, kept_cell k h.2.2.2.1, kept_cell k h.2.2.2.2.1, kept_cell k h.2.2.2.2.2⟩
/-- What holds while move tests. -/
structure MW (w : World) (g n i r : Nat) (D : Nat → Bd) (tx ty tz : Int) (wr : World) : Prop where
  own : OwnB wr g n D
  t0 : wr.cell? ⟨r, 0, none⟩ = some (.int .i64 tx)
  t1 : wr.cell? ⟨r, 1, none⟩ = some (.int .i64 ty)
  t2 : wr.cell? ⟨r, 2, none⟩ = some (.int .i64 tz)
  only : Only [g] w wr
  nr : r ≠ g
theorem MW.drew {w : World} {g n i r : Nat} {D : Nat → Bd} {tx ty tz : Int} {wr : World} (h : MW w g n i r D tx ty tz wr) (k : Nat) : MW w g n i r D tx ty tz (wr.drewN k) :=
  ⟨h.own.only (D := []) (Only.drewN wr k) (by simp), cell_old1 (Only.drewN wr k) h.t0, cell_old1 (Only.drewN wr k) h.t1, cell_old1 (Only.drewN wr k) h.t2, h.only.trans (Only.drewN wr k), h.nr⟩
theorem MW.turn {w : World} {g n i r : Nat} {D E : Nat → Bd} {tx ty tz : Int} {wr w' : World} (h : MW w g n i r D tx ty tz wr) (hO : OwnB w' g n E) (o : Only [g] wr w') : MW w g n i r E tx ty tz w' :=
  ⟨hO, cell_only o h.t0 (by simp only [List.mem_singleton]; exact h.nr), cell_only o h.t1 (by simp only [List.mem_singleton]; exact h.nr), cell_only o h.t2 (by simp only [List.mem_singleton]; exact h.nr), h.only.trans o, h.nr⟩
set_option maxRecDepth 100000 in
set_option maxHeartbeats 8000000 in
theorem move_calls (g n i : Nat) (B : Nat → Bd) (w : World) (h : OwnB w g n B) (hi : i < n) (hn : n ≤ 60) :
    Calls Tryz.prog 23 #[.pointer (some ⟨g, i * 17, none⟩)] w fun e w' => e = .returned (.tuple #[]) ∧ OwnB w' g n (upd B i (moveB (B i))) ∧ Only [g] w w' := by
  have HO : Hid (OwnB w g n B) := h
  have HI : Hid (i < n ∧ n ≤ 60) := ⟨hi, hn⟩
  clear h hi hn
  obtain ⟨q, hq⟩ : ∃ q, q = B i := ⟨_, rfl⟩
  have HQ : Hid (q = B i) := hq
  have HA : MovAt g i q w := by
    rw [hq]
    exact ⟨HO.out.cell HI.out.1 (show 6 < 17 by omega), HO.out.cell HI.out.1 (show 7 < 17 by omega), HO.out.cell HI.out.1 (show 8 < 17 by omega), HO.out.cell HI.out.1 (show 9 < 17 by omega), HO.out.cell HI.out.1 (show 10 < 17 by omega), HO.out.cell HI.out.1 (show 11 < 17 by omega)⟩
  clear hq
  go_enter Tryz.func23, Tryz.ntmps23
  go_upto_region 0 with fail
  go_cut [2] from 3 to 54 (fun s2 wc => ∃ r, s2 = .pointer (some ⟨r, 0, none⟩) ∧ Kept w wc ∧ w.heap.size ≤ r ∧ wc.cell? ⟨r, 0, none⟩ = some (.int .i64 (add q.ax q.vx)) ∧ wc.cell? ⟨r, 1, none⟩ = some (.int .i64 (add q.ay q.vy)) ∧ wc.cell? ⟨r, 2, none⟩ = some (.int .i64 (add q.az q.vz)))
  case first =>
    as_aux_lemma =>
      refine wp_region_held_drew (S := fun w' => Kept w w' ∧ (w'.cell? ⟨g, i * 17 + 6, none⟩ = some (.int .i64 (q.ax)) ∧ w'.cell? ⟨g, i * 17 + 7, none⟩ = some (.int .i64 (q.ay)) ∧ w'.cell? ⟨g, i * 17 + 8, none⟩ = some (.int .i64 (q.az)) ∧ w'.cell? ⟨g, i * 17 + 9, none⟩ = some (.int .i64 (q.vx)) ∧ w'.cell? ⟨g, i * 17 + 10, none⟩ = some (.int .i64 (q.vy)) ∧ w'.cell? ⟨g, i * 17 + 11, none⟩ = some (.int .i64 (q.vz)))) (by kernel_rfl) ?_ (fun hH0 => ?_)
      · (try dsimp only); exact ⟨(Kept.refl _).drew, HA.step (Kept.refl _).drew⟩
      refine wpAnyH_take (i := 0) (v := ?_) rfl (by kernel_rfl) (by kernel_rfl) (by kernel_rfl) (fun _ _ _ h => h) (Or.inl ⟨by kernel_rfl, ?_⟩) (by assumption) ?_
      rotate_left
      · intro w'' hSw; (try dsimp only at hSw); simp only [zqa, zqb, zqc]; (go_simp <;> with_reducible rfl)
      try simp only [Act.put, zqd, zqe, zqf, zqa, zqb, zqc]
      refine wpAnyH_take (i := 1) (v := ?_) rfl (by kernel_rfl) (by kernel_rfl) (by kernel_rfl) (fun _ _ _ h => h) (Or.inl ⟨by kernel_rfl, ?_⟩) (by assumption) ?_
      rotate_left
      · intro w'' hSw; (try dsimp only at hSw); simp only [zqa, zqb, zqc]; (go_simp <;> with_reducible rfl)
      try simp only [Act.put, zqd, zqe, zqf, zqa, zqb, zqc]
      refine wpAnyH_take (i := 2) (v := ?_) rfl (by kernel_rfl) (by kernel_rfl) (by kernel_rfl) (fun _ _ _ h => h) (Or.inl ⟨by kernel_rfl, ?_⟩) (by assumption) ?_
      rotate_left
      · intro w'' hSw; (try dsimp only at hSw); simp only [zqa, zqb, zqc]; (go_simp <;> with_reducible rfl)
      try simp only [Act.put, zqd, zqe, zqf, zqa, zqb, zqc]
      refine wpAnyH_take (i := 3) (v := ?_) rfl (by kernel_rfl) (by kernel_rfl) (by kernel_rfl) (fun _ _ _ h => h) (Or.inl ⟨by kernel_rfl, ?_⟩) (by assumption) ?_
      rotate_left
      · intro w'' hSw; (try dsimp only at hSw); simp only [zqa, zqb, zqc]; (go_simp <;> with_reducible rfl)
      try simp only [Act.put, zqd, zqe, zqf, zqa, zqb, zqc]
      refine wpAnyH_take (i := 4) (v := ?_) rfl (by kernel_rfl) (by kernel_rfl) (by kernel_rfl) (fun _ _ _ h => h) (Or.inl ⟨by kernel_rfl, ?_⟩) (by assumption) ?_
      rotate_left
      · intro w'' hSw; (try dsimp only at hSw); simp only [zqa, zqb, zqc]; (go_simp <;> with_reducible rfl)
      try simp only [Act.put, zqd, zqe, zqf, zqa, zqb, zqc]
      refine wpAnyH_take (i := 5) (v := ?_) rfl (by kernel_rfl) (by kernel_rfl) (by kernel_rfl) (fun _ _ _ h => h) (Or.inl ⟨by kernel_rfl, ?_⟩) (by assumption) ?_
      rotate_left
      · intro w'' hSw; (try dsimp only at hSw); simp only [zqa, zqb, zqc]; (go_simp <;> with_reducible rfl)
      try simp only [Act.put, zqd, zqe, zqf, zqa, zqb, zqc]
      refine wpAnyH_take (i := 6) (v := ?_) rfl (by kernel_rfl) (by kernel_rfl) (by kernel_rfl) (fun _ _ _ h => h) (Or.inl ⟨by kernel_rfl, ?_⟩) (by assumption) ?_
      rotate_left
      · intro w'' hSw; (try dsimp only at hSw); simp only [zqa, zqb, zqc]; (go_simp <;> with_reducible rfl)
      try simp only [Act.put, zqd, zqe, zqf, zqa, zqb, zqc]
      refine wpAnyH_take (i := 7) (v := ?_) rfl (by kernel_rfl) (by kernel_rfl) (by kernel_rfl) (fun _ _ _ h => h) (Or.inl ⟨by kernel_rfl, ?_⟩) (by assumption) ?_
      rotate_left
      · intro w'' hSw; (try dsimp only at hSw); simp only [zqa, zqb, zqc]; (go_simp <;> with_reducible rfl)
      try simp only [Act.put, zqd, zqe, zqf, zqa, zqb, zqc]
      refine wpAnyH_ready (rs := [8, 9]) (by kernel_rfl) (by simp) ?_
      refine AllReadyH.cons rfl (fun K hK => ?_) (AllReadyH.cons rfl (fun K hK => ?_) AllReadyH.nil)
      · rw [if_pos (by rfl)]
        simp only [zqa, zqb, zqc]
        go_simp
        (go_at_call 13; refine (plus_calls _ _ _ _ _ _ _).mono ?_; rintro e wc1 ⟨rfl, kc1⟩)
        try go_wp2_with fail
        refine hK.out _ _ ?_ (fun hH1 => ?_)
        · exact ⟨hH0.1.trans kc1, HA.step (hH0.1.trans kc1)⟩
        clear hK K hH0
        try simp only [Act.put, zqd, zqe, zqf, zqa, zqb, zqc]
        refine wpAnyH_ready (rs := [9]) (by kernel_rfl) (by simp) ?_
        refine AllReadyH.cons rfl (fun K hK => ?_) AllReadyH.nil
        rw [if_pos (by rfl)]
        simp only [zqa, zqb, zqc]
        go_simp
        refine hK.out _ _ ?_ (fun hH2 => ?_)
        · exact ⟨hH1.1.alloc _ _, HA.step (hH1.1.alloc _ _)⟩
        have hp : w.heap.size ≤ wc1.heap.size := Nat.le_trans hH1.1.below.size (Nat.le_of_eq (by simp))
        have hP : FrS3 w (wc1.heap.size) (wc1.alloc (.cells #[.int .i64 0, .int .i64 0, .int .i64 0] 24)) := by refine ⟨hH1.1.alloc _ _, cellV_of (v := .int .i64 0) ?_, cellV_of (v := .int .i64 0) ?_, cellV_of (v := .int .i64 0) ?_, ?_, ?_, ?_⟩ <;> go_simp
        clear hK K hH1
        try simp only [Act.put, zqd, zqe, zqf, zqa, zqb, zqc]
        generalize (wc1.alloc (.cells #[.int .i64 0, .int .i64 0, .int .i64 0] 24)) = wz3 at hH2 hP ⊢
        have hP0 := hP
        obtain ⟨_, cp0, cp1, cp2, fp0, fp1, fp2⟩ := hP0
        refine wpAnyH_ready (rs := [10]) (by kernel_rfl) (by simp) ?_
        refine AllReadyH.cons rfl (fun K hK => ?_) AllReadyH.nil
        rw [if_pos (by rfl)]
        simp only [zqa, zqb, zqc]
        go_simp
        refine hK.out _ _ ?_ (fun hS1 => ?_)
        · exact ⟨kept_set3 hH2.1 hp _ _ _, HA.step (kept_set3 hH2.1 hp _ _ _)⟩
        clear hK K
        try simp only [Act.put, zqd, zqe, zqf, zqa, zqb, zqc]
        refine wpAnyH_done (by kernel_rfl) ?_ _
        obtain ⟨s0, s1, s2⟩ := set3_of (v0 := .int .i64 (add q.ax q.vx)) (v1 := .int .i64 (add q.ay q.vy)) (v2 := .int .i64 (add q.az q.vz)) cp0 cp1 cp2
        go_wp2_with fail
        go_meet
        case rel => exact ⟨_, rfl, hS1.1, hp, s0, s1, s2⟩
      · rw [if_pos (by rfl)]
        simp only [zqa, zqb, zqc]
        go_simp
        refine hK.out _ _ ?_ (fun hH4 => ?_)
        · exact ⟨hH0.1.alloc _ _, HA.step (hH0.1.alloc _ _)⟩
        have hp : w.heap.size ≤ w.heap.size := Nat.le_trans hH0.1.below.size (Nat.le_of_eq (by simp))
        have hP : FrS3 w (w.heap.size) (w.drew.alloc (.cells #[.int .i64 0, .int .i64 0, .int .i64 0] 24)) := by refine ⟨hH0.1.alloc _ _, cellV_of (v := .int .i64 0) ?_, cellV_of (v := .int .i64 0) ?_, cellV_of (v := .int .i64 0) ?_, ?_, ?_, ?_⟩ <;> go_simp
        clear hK K hH0
        try simp only [Act.put, zqd, zqe, zqf, zqa, zqb, zqc]
        refine wpAnyH_ready (rs := [8]) (by kernel_rfl) (by simp) ?_
        refine AllReadyH.cons rfl (fun K hK => ?_) AllReadyH.nil
        rw [if_pos (by rfl)]
        simp only [zqa, zqb, zqc]
        go_simp
        (go_at_call 13; refine (plus_calls _ _ _ _ _ _ _).mono ?_; rintro e wc5 ⟨rfl, kc5⟩)
        try go_wp2_with fail
        refine hK.out _ _ ?_ (fun hH5 => ?_)
        · exact ⟨hH4.1.trans kc5, HA.step (hH4.1.trans kc5)⟩
        replace hP := hP.step kc5
        clear hK K hH4
        try simp only [Act.put, zqd, zqe, zqf, zqa, zqb, zqc]
        have hP0 := hP
        obtain ⟨_, cp0, cp1, cp2, fp0, fp1, fp2⟩ := hP0
        refine wpAnyH_ready (rs := [10]) (by kernel_rfl) (by simp) ?_
        refine AllReadyH.cons rfl (fun K hK => ?_) AllReadyH.nil
        rw [if_pos (by rfl)]
        simp only [zqa, zqb, zqc]
        go_simp
        refine hK.out _ _ ?_ (fun hS1 => ?_)
        · exact ⟨kept_set3 hH5.1 hp _ _ _, HA.step (kept_set3 hH5.1 hp _ _ _)⟩
        clear hK K
        try simp only [Act.put, zqd, zqe, zqf, zqa, zqb, zqc]
        refine wpAnyH_done (by kernel_rfl) ?_ _
        obtain ⟨s0, s1, s2⟩ := set3_of (v0 := .int .i64 (add q.ax q.vx)) (v1 := .int .i64 (add q.ay q.vy)) (v2 := .int .i64 (add q.az q.vz)) cp0 cp1 cp2
        go_wp2_with fail
        go_meet
        case rel => exact ⟨_, rfl, hS1.1, hp, s0, s1, s2⟩
  case rest =>
    obtain ⟨r, rfl, k0, hr, s0, s1, s2⟩ := hcut
    have hrg : r ≠ g := by have := HO.out.lt; omega
    obtain ⟨A0, hA0⟩ : ∃ z, z = add q.ax q.vx := ⟨_, rfl⟩
    obtain ⟨A1, hA1⟩ : ∃ z, z = add q.ay q.vy := ⟨_, rfl⟩
    obtain ⟨A2, hA2⟩ : ∃ z, z = add q.az q.vz := ⟨_, rfl⟩
    rw [← hA0] at s0
    rw [← hA1] at s1
    rw [← hA2] at s2
    have HT : Hid (A0 = add q.ax q.vx ∧ A1 = add q.ay q.vy ∧ A2 = add q.az q.vz) := ⟨hA0, hA1, hA2⟩
    have H0 : Hid (MW w g n i r B A0 A1 A2 wc) := ⟨HO.out.only (Only.of_kept (D := []) k0) (by simp), s0, s1, s2, Only.of_kept k0, hrg⟩
    clear hA0 hA1 hA2 k0 hr HA hrg
    obtain ⟨w1, hw1⟩ : ∃ w1, w1 = wc := ⟨_, rfl⟩
    subst hw1
    go_wp2_with fail
    refine (clamp_calls _ _ _ _ _ (by decide)).mono ?_
    rintro e w2 ⟨rfl, k2⟩
    simp only [bound_place]
    have H2 : Hid (MW w g n i r B A0 A1 A2 w2) := ⟨H0.out.own.only (Only.of_kept (D := []) k2) (by simp), kept_cell k2 s0, kept_cell k2 s1, kept_cell k2 s2, H0.out.only.trans (Only.of_kept k2), H0.out.nr⟩
    clear s0 s1 s2 k2 H0
    have c6 := H2.out.own.cell HI.out.1 (show 6 < 17 by omega); have c7 := H2.out.own.cell HI.out.1 (show 7 < 17 by omega); have c8 := H2.out.own.cell HI.out.1 (show 8 < 17 by omega)
    simp only [bc] at c6 c7 c8
    have f6 := H2.out.own.free (i * 17 + 6); have f7 := H2.out.own.free (i * 17 + 7); have f8 := H2.out.own.free (i * 17 + 8)
    go_upto_region 2 with fail
    obtain ⟨D1, hD1⟩ : ∃ D, D = upd B i (atX q (cl 65536000 A0) (cl 65536000 A1) (cl 65536000 A2)) := ⟨_, rfl⟩
    have HD1 : Hid (D1 = upd B i (atX q (cl 65536000 A0) (cl 65536000 A1) (cl 65536000 A2))) := hD1
    have H3 : Hid (MW w g n i r D1 A0 A1 A2 (((w2.setCell ⟨g, i * 17 + 6, none⟩ (.int .i64 (cl 65536000 A0))).setCell ⟨g, i * 17 + 7, none⟩ (.int .i64 (cl 65536000 A1))).setCell ⟨g, i * 17 + 8, none⟩ (.int .i64 (cl 65536000 A2)))) := by
      have h1 := H2.out.own.putAt HI.out.1 (cl 65536000 A0) (cl 65536000 A1) (cl 65536000 A2)
      rw [← HQ.out, ← hD1] at h1
      exact H2.out.turn h1 ((((Only.refl [g] w2).setCell (p := ⟨g, i * 17 + 6, none⟩) (Or.inl (by simp)) _).setCell (p := ⟨g, i * 17 + 7, none⟩) (Or.inl (by simp)) _).setCell (p := ⟨g, i * 17 + 8, none⟩) (Or.inl (by simp)) _)
    clear c6 c7 c8 f6 f7 f8 H2 hD1
    revert H3
    generalize World.setCell (World.setCell (World.setCell w2 _ _) _ _) _ _ = w3
    intro H3
    obtain ⟨C0, hC0⟩ : ∃ z, z = cl 65536000 A0 := ⟨_, rfl⟩
    obtain ⟨C1, hC1⟩ : ∃ z, z = cl 65536000 A1 := ⟨_, rfl⟩
    obtain ⟨C2, hC2⟩ : ∃ z, z = cl 65536000 A2 := ⟨_, rfl⟩
    rw [← hC0, ← hC1, ← hC2] at HD1
    have HC : Hid (C0 = cl 65536000 A0 ∧ C1 = cl 65536000 A1 ∧ C2 = cl 65536000 A2) := ⟨hC0, hC1, hC2⟩
    clear hC0 hC1 hC2
    have HFIN : Hid (∀ E wz, E = spX (D1 i) (if C0 = A0 then q.vx else 0) (if C1 = A1 then q.vy else 0) (if C2 = A2 then q.vz else 0) → OwnB wz g n (upd D1 i E) → OwnB wz g n (upd B i (moveB (B i)))) := fun E wz hE hw => by
      have e1 : upd B i (moveB (B i)) = upd D1 i E := by
        rw [hE, HD1.out, upd_at, upd_twice, HC.out.1, HC.out.2.1, HC.out.2.2, HT.out.1, HT.out.2.1, HT.out.2.2, ← HQ.out]
        rfl
      rw [e1]; exact hw
    have c6 := H3.out.own.cell HI.out.1 (show 6 < 17 by omega); have c7 := H3.out.own.cell HI.out.1 (show 7 < 17 by omega); have c8 := H3.out.own.cell HI.out.1 (show 8 < 17 by omega)
    have HDI : Hid (D1 i = atX q C0 C1 C2) := by show D1 i = _; rw [HD1.out, upd_at]
    rw [HDI.out] at c6 c7 c8
    simp only [bc, atX] at c6 c7 c8
    have s0 := H3.out.t0; have s1 := H3.out.t1; have s2 := H3.out.t2
    clear HD1 HC HT
    by_cases h0 : C0 = A0
    · have b0 : (C0 == A0) = true := by simpa using h0
      by_cases h1 : C1 = A1
      · have b1 : (C1 == A1) = true := by simpa using h1
        by_cases h2 : C2 = A2
        · have b2 : (C2 == A2) = true := by simpa using h2
          as_aux_lemma =>
            have HE : Hid (D1 = upd D1 i (D1 i)) := (upd_none D1 i).symm
            go_quiet (fail)
            go_wp2_with fail
            refine bodyPost_ret (results_none rfl _ _ _) rfl ?_
            refine ⟨rfl, HFIN.out (D1 i) _ (by rw [HDI.out]; simp [h0, h1, h2]; rfl) (by rw [← HE.out]; exact (H3.out.drew _).own), (H3.out.drew _).only⟩
        · have b2 : (C2 == A2) = false := by simpa using h2
          as_aux_lemma =>
            go_quiet (fail)
            have H4 := H3.out.drew nq
            revert H4
            generalize World.drewN w3 nq = w4
            intro H4
            clear c6 c7 c8 s0 s1 s2 H3
            have HM0 : Hid (MW w g n i r D1 A0 A1 A2 w4) := H4
            clear H4
            have HE0 : Hid (D1 i = spX (D1 i) q.vx q.vy q.vz ∧ upd D1 i (D1 i) = D1) := ⟨by rw [HDI.out]; rfl, upd_none D1 i⟩
            have p0 := HM0.out.own.cell HI.out.1 (show 6 < 17 by omega); have t0 := HM0.out.t0
            skip
            rw [HDI.out] at p0
            simp only [bc, spX, atX] at p0
            skip
            go_upto_region 3 with fail
            go_quiet (fail)
            clear p0 t0
            have HN0 : Hid (MW w g n i r D1 A0 A1 A2 (World.drewN w4 nq)) := HM0.out.drew nq
            revert HN0
            generalize World.drewN w4 nq = v0
            intro HN0
            clear HM0
            have p1 := HN0.out.own.cell HI.out.1 (show 7 < 17 by omega); have t1 := HN0.out.t1
            skip
            rw [HDI.out] at p1
            simp only [bc, spX, atX] at p1
            skip
            go_upto_region 5 with fail
            go_quiet (fail)
            clear p1 t1
            have HN1 : Hid (MW w g n i r D1 A0 A1 A2 (World.drewN v0 nq)) := HN0.out.drew nq
            revert HN1
            generalize World.drewN v0 nq = v1
            intro HN1
            clear HN0
            have p2 := HN1.out.own.cell HI.out.1 (show 8 < 17 by omega); have t2 := HN1.out.t2
            skip
            rw [HDI.out] at p2
            simp only [bc, spX, atX] at p2
            skip
            go_upto_region 7 with fail
            go_quiet (fail)
            clear p2 t2
            have HN2 : Hid (MW w g n i r D1 A0 A1 A2 (World.drewN v1 nq)) := HN1.out.drew nq
            revert HN2
            generalize World.drewN v1 nq = v2
            intro HN2
            clear HN1
            have c := HN2.out.own.cell HI.out.1 (show 11 < 17 by omega); have f := HN2.out.own.free (i * 17 + 11)
            simp only [bc] at c
            obtain ⟨E2, hE2⟩ : ∃ E, E = upd D1 i (setZ (D1 i) 0) := ⟨_, rfl⟩
            have HS2 : Hid (MW w g n i r E2 A0 A1 A2 (World.setCell v2 ⟨g, i * 17 + 11, none⟩ (.int .i64 0))) := by rw [hE2]; exact HN2.out.turn (HN2.out.own.putZ HI.out.1 0) ((Only.refl [g] v2).setCell (p := ⟨g, i * 17 + 11, none⟩) (Or.inl (by simp)) _)
            have HB3 : Hid (E2 i = spX (atX q C0 C1 C2) (q.vx) (q.vy) (0)) := by show E2 i = _; rw [hE2, upd_at, HDI.out]; rfl
            have HU3 : Hid (upd D1 i (E2 i) = E2) := by show upd D1 i (E2 i) = E2; rw [hE2, upd_at]
            go_wp2_with fail
            refine bodyPost_end (results_none rfl _ _ _) rfl ?_
            refine ⟨rfl, HFIN.out (E2 i) _ (by rw [HDI.out, HB3.out]; simp [h0, h1, h2]) (by rw [HU3.out]; exact HS2.out.own), HS2.out.only⟩
      · have b1 : (C1 == A1) = false := by simpa using h1
        by_cases h2 : C2 = A2
        · have b2 : (C2 == A2) = true := by simpa using h2
          as_aux_lemma =>
            go_quiet (fail)
            have H4 := H3.out.drew nq
            revert H4
            generalize World.drewN w3 nq = w4
            intro H4
            clear c6 c7 c8 s0 s1 s2 H3
            have HM0 : Hid (MW w g n i r D1 A0 A1 A2 w4) := H4
            clear H4
            have HE0 : Hid (D1 i = spX (D1 i) q.vx q.vy q.vz ∧ upd D1 i (D1 i) = D1) := ⟨by rw [HDI.out]; rfl, upd_none D1 i⟩
            have p0 := HM0.out.own.cell HI.out.1 (show 6 < 17 by omega); have t0 := HM0.out.t0
            skip
            rw [HDI.out] at p0
            simp only [bc, spX, atX] at p0
            skip
            go_upto_region 3 with fail
            go_quiet (fail)
            clear p0 t0
            have HN0 : Hid (MW w g n i r D1 A0 A1 A2 (World.drewN w4 nq)) := HM0.out.drew nq
            revert HN0
            generalize World.drewN w4 nq = v0
            intro HN0
            clear HM0
            have p1 := HN0.out.own.cell HI.out.1 (show 7 < 17 by omega); have t1 := HN0.out.t1
            skip
            rw [HDI.out] at p1
            simp only [bc, spX, atX] at p1
            skip
            go_upto_region 5 with fail
            go_quiet (fail)
            clear p1 t1
            have HN1 : Hid (MW w g n i r D1 A0 A1 A2 (World.drewN v0 nq)) := HN0.out.drew nq
            revert HN1
            generalize World.drewN v0 nq = v1
            intro HN1
            clear HN0
            have c := HN1.out.own.cell HI.out.1 (show 10 < 17 by omega); have f := HN1.out.own.free (i * 17 + 10)
            simp only [bc] at c
            obtain ⟨E1, hE1⟩ : ∃ E, E = upd D1 i (setY (D1 i) 0) := ⟨_, rfl⟩
            have HS1 : Hid (MW w g n i r E1 A0 A1 A2 (World.setCell v1 ⟨g, i * 17 + 10, none⟩ (.int .i64 0))) := by rw [hE1]; exact HN1.out.turn (HN1.out.own.putY HI.out.1 0) ((Only.refl [g] v1).setCell (p := ⟨g, i * 17 + 10, none⟩) (Or.inl (by simp)) _)
            have HB2 : Hid (E1 i = spX (atX q C0 C1 C2) (q.vx) (0) (q.vz)) := by show E1 i = _; rw [hE1, upd_at, HDI.out]; rfl
            have HU2 : Hid (upd D1 i (E1 i) = E1) := by show upd D1 i (E1 i) = E1; rw [hE1, upd_at]
            clear hE1
            go_upto_region 7 with fail
            clear c f
            revert HS1
            generalize World.setCell v1 _ _ = x1
            intro HS1
            clear HN1
            have p2 := HS1.out.own.cell HI.out.1 (show 8 < 17 by omega); have t2 := HS1.out.t2
            skip
            rw [HB2.out] at p2
            simp only [bc, spX, atX] at p2
            skip
            go_upto_region 7 with fail
            go_quiet (fail)
            clear p2 t2
            have HN2 : Hid (MW w g n i r E1 A0 A1 A2 (World.drewN x1 nq)) := HS1.out.drew nq
            revert HN2
            generalize World.drewN x1 nq = v2
            intro HN2
            clear HS1
            go_wp2_with fail
            refine bodyPost_end (results_none rfl _ _ _) rfl ?_
            refine ⟨rfl, HFIN.out (E1 i) _ (by rw [HDI.out, HB2.out]; simp [h0, h1, h2]) (by rw [HU2.out]; exact HN2.out.own), HN2.out.only⟩
        · have b2 : (C2 == A2) = false := by simpa using h2
          as_aux_lemma =>
            go_quiet (fail)
            have H4 := H3.out.drew nq
            revert H4
            generalize World.drewN w3 nq = w4
            intro H4
            clear c6 c7 c8 s0 s1 s2 H3
            have HM0 : Hid (MW w g n i r D1 A0 A1 A2 w4) := H4
            clear H4
            have HE0 : Hid (D1 i = spX (D1 i) q.vx q.vy q.vz ∧ upd D1 i (D1 i) = D1) := ⟨by rw [HDI.out]; rfl, upd_none D1 i⟩
            have p0 := HM0.out.own.cell HI.out.1 (show 6 < 17 by omega); have t0 := HM0.out.t0
            skip
            rw [HDI.out] at p0
            simp only [bc, spX, atX] at p0
            skip
            go_upto_region 3 with fail
            go_quiet (fail)
            clear p0 t0
            have HN0 : Hid (MW w g n i r D1 A0 A1 A2 (World.drewN w4 nq)) := HM0.out.drew nq
            revert HN0
            generalize World.drewN w4 nq = v0
            intro HN0
            clear HM0
            have p1 := HN0.out.own.cell HI.out.1 (show 7 < 17 by omega); have t1 := HN0.out.t1
            skip
            rw [HDI.out] at p1
            simp only [bc, spX, atX] at p1
            skip
            go_upto_region 5 with fail
            go_quiet (fail)
            clear p1 t1
            have HN1 : Hid (MW w g n i r D1 A0 A1 A2 (World.drewN v0 nq)) := HN0.out.drew nq
            revert HN1
            generalize World.drewN v0 nq = v1
            intro HN1
            clear HN0
            have c := HN1.out.own.cell HI.out.1 (show 10 < 17 by omega); have f := HN1.out.own.free (i * 17 + 10)
            simp only [bc] at c
            obtain ⟨E1, hE1⟩ : ∃ E, E = upd D1 i (setY (D1 i) 0) := ⟨_, rfl⟩
            have HS1 : Hid (MW w g n i r E1 A0 A1 A2 (World.setCell v1 ⟨g, i * 17 + 10, none⟩ (.int .i64 0))) := by rw [hE1]; exact HN1.out.turn (HN1.out.own.putY HI.out.1 0) ((Only.refl [g] v1).setCell (p := ⟨g, i * 17 + 10, none⟩) (Or.inl (by simp)) _)
            have HB2 : Hid (E1 i = spX (atX q C0 C1 C2) (q.vx) (0) (q.vz)) := by show E1 i = _; rw [hE1, upd_at, HDI.out]; rfl
            have HU2 : Hid (upd D1 i (E1 i) = E1) := by show upd D1 i (E1 i) = E1; rw [hE1, upd_at]
            clear hE1
            go_upto_region 7 with fail
            clear c f
            revert HS1
            generalize World.setCell v1 _ _ = x1
            intro HS1
            clear HN1
            have p2 := HS1.out.own.cell HI.out.1 (show 8 < 17 by omega); have t2 := HS1.out.t2
            skip
            rw [HB2.out] at p2
            simp only [bc, spX, atX] at p2
            skip
            go_upto_region 7 with fail
            go_quiet (fail)
            clear p2 t2
            have HN2 : Hid (MW w g n i r E1 A0 A1 A2 (World.drewN x1 nq)) := HS1.out.drew nq
            revert HN2
            generalize World.drewN x1 nq = v2
            intro HN2
            clear HS1
            have c := HN2.out.own.cell HI.out.1 (show 11 < 17 by omega); have f := HN2.out.own.free (i * 17 + 11)
            simp only [bc] at c
            obtain ⟨E2, hE2⟩ : ∃ E, E = upd E1 i (setZ (E1 i) 0) := ⟨_, rfl⟩
            have HS2 : Hid (MW w g n i r E2 A0 A1 A2 (World.setCell v2 ⟨g, i * 17 + 11, none⟩ (.int .i64 0))) := by rw [hE2]; exact HN2.out.turn (HN2.out.own.putZ HI.out.1 0) ((Only.refl [g] v2).setCell (p := ⟨g, i * 17 + 11, none⟩) (Or.inl (by simp)) _)
            have HB3 : Hid (E2 i = spX (atX q C0 C1 C2) (q.vx) (0) (0)) := by show E2 i = _; rw [hE2, upd_at, HB2.out]; rfl
            have HU3 : Hid (upd D1 i (E2 i) = E2) := by show upd D1 i (E2 i) = E2; rw [hE2, upd_at]; rw [← HU2.out, upd_twice, upd_at]
            go_wp2_with fail
            refine bodyPost_end (results_none rfl _ _ _) rfl ?_
            refine ⟨rfl, HFIN.out (E2 i) _ (by rw [HDI.out, HB3.out]; simp [h0, h1, h2]) (by rw [HU3.out]; exact HS2.out.own), HS2.out.only⟩
    · have b0 : (C0 == A0) = false := by simpa using h0
      by_cases h1 : C1 = A1
      · have b1 : (C1 == A1) = true := by simpa using h1
        by_cases h2 : C2 = A2
        · have b2 : (C2 == A2) = true := by simpa using h2
          as_aux_lemma =>
            go_quiet (fail)
            have H4 := H3.out.drew nq
            revert H4
            generalize World.drewN w3 nq = w4
            intro H4
            clear c6 c7 c8 s0 s1 s2 H3
            have HM0 : Hid (MW w g n i r D1 A0 A1 A2 w4) := H4
            clear H4
            have HE0 : Hid (D1 i = spX (D1 i) q.vx q.vy q.vz ∧ upd D1 i (D1 i) = D1) := ⟨by rw [HDI.out]; rfl, upd_none D1 i⟩
            have p0 := HM0.out.own.cell HI.out.1 (show 6 < 17 by omega); have t0 := HM0.out.t0
            skip
            rw [HDI.out] at p0
            simp only [bc, spX, atX] at p0
            skip
            go_upto_region 3 with fail
            go_quiet (fail)
            clear p0 t0
            have HN0 : Hid (MW w g n i r D1 A0 A1 A2 (World.drewN w4 nq)) := HM0.out.drew nq
            revert HN0
            generalize World.drewN w4 nq = v0
            intro HN0
            clear HM0
            have c := HN0.out.own.cell HI.out.1 (show 9 < 17 by omega); have f := HN0.out.own.free (i * 17 + 9)
            simp only [bc] at c
            obtain ⟨E0, hE0⟩ : ∃ E, E = upd D1 i (setX (D1 i) 0) := ⟨_, rfl⟩
            have HS0 : Hid (MW w g n i r E0 A0 A1 A2 (World.setCell v0 ⟨g, i * 17 + 9, none⟩ (.int .i64 0))) := by rw [hE0]; exact HN0.out.turn (HN0.out.own.putX HI.out.1 0) ((Only.refl [g] v0).setCell (p := ⟨g, i * 17 + 9, none⟩) (Or.inl (by simp)) _)
            have HB1 : Hid (E0 i = spX (atX q C0 C1 C2) (0) (q.vy) (q.vz)) := by show E0 i = _; rw [hE0, upd_at, HDI.out]; rfl
            have HU1 : Hid (upd D1 i (E0 i) = E0) := by show upd D1 i (E0 i) = E0; rw [hE0, upd_at]
            clear hE0
            go_upto_region 5 with fail
            clear c f
            revert HS0
            generalize World.setCell v0 _ _ = x0
            intro HS0
            clear HN0
            have p1 := HS0.out.own.cell HI.out.1 (show 7 < 17 by omega); have t1 := HS0.out.t1
            skip
            rw [HB1.out] at p1
            simp only [bc, spX, atX] at p1
            skip
            go_upto_region 5 with fail
            go_quiet (fail)
            clear p1 t1
            have HN1 : Hid (MW w g n i r E0 A0 A1 A2 (World.drewN x0 nq)) := HS0.out.drew nq
            revert HN1
            generalize World.drewN x0 nq = v1
            intro HN1
            clear HS0
            have p2 := HN1.out.own.cell HI.out.1 (show 8 < 17 by omega); have t2 := HN1.out.t2
            skip
            rw [HB1.out] at p2
            simp only [bc, spX, atX] at p2
            skip
            go_upto_region 7 with fail
            go_quiet (fail)
            clear p2 t2
            have HN2 : Hid (MW w g n i r E0 A0 A1 A2 (World.drewN v1 nq)) := HN1.out.drew nq
            revert HN2
            generalize World.drewN v1 nq = v2
            intro HN2
            clear HN1
            go_wp2_with fail
            refine bodyPost_end (results_none rfl _ _ _) rfl ?_
            refine ⟨rfl, HFIN.out (E0 i) _ (by rw [HDI.out, HB1.out]; simp [h0, h1, h2]) (by rw [HU1.out]; exact HN2.out.own), HN2.out.only⟩
        · have b2 : (C2 == A2) = false := by simpa using h2
          as_aux_lemma =>
            go_quiet (fail)
            have H4 := H3.out.drew nq
            revert H4
            generalize World.drewN w3 nq = w4
            intro H4
            clear c6 c7 c8 s0 s1 s2 H3
            have HM0 : Hid (MW w g n i r D1 A0 A1 A2 w4) := H4
            clear H4
            have HE0 : Hid (D1 i = spX (D1 i) q.vx q.vy q.vz ∧ upd D1 i (D1 i) = D1) := ⟨by rw [HDI.out]; rfl, upd_none D1 i⟩
            have p0 := HM0.out.own.cell HI.out.1 (show 6 < 17 by omega); have t0 := HM0.out.t0
            skip
            rw [HDI.out] at p0
            simp only [bc, spX, atX] at p0
            skip
            go_upto_region 3 with fail
            go_quiet (fail)
            clear p0 t0
            have HN0 : Hid (MW w g n i r D1 A0 A1 A2 (World.drewN w4 nq)) := HM0.out.drew nq
            revert HN0
            generalize World.drewN w4 nq = v0
            intro HN0
            clear HM0
            have c := HN0.out.own.cell HI.out.1 (show 9 < 17 by omega); have f := HN0.out.own.free (i * 17 + 9)
            simp only [bc] at c
            obtain ⟨E0, hE0⟩ : ∃ E, E = upd D1 i (setX (D1 i) 0) := ⟨_, rfl⟩
            have HS0 : Hid (MW w g n i r E0 A0 A1 A2 (World.setCell v0 ⟨g, i * 17 + 9, none⟩ (.int .i64 0))) := by rw [hE0]; exact HN0.out.turn (HN0.out.own.putX HI.out.1 0) ((Only.refl [g] v0).setCell (p := ⟨g, i * 17 + 9, none⟩) (Or.inl (by simp)) _)
            have HB1 : Hid (E0 i = spX (atX q C0 C1 C2) (0) (q.vy) (q.vz)) := by show E0 i = _; rw [hE0, upd_at, HDI.out]; rfl
            have HU1 : Hid (upd D1 i (E0 i) = E0) := by show upd D1 i (E0 i) = E0; rw [hE0, upd_at]
            clear hE0
            go_upto_region 5 with fail
            clear c f
            revert HS0
            generalize World.setCell v0 _ _ = x0
            intro HS0
            clear HN0
            have p1 := HS0.out.own.cell HI.out.1 (show 7 < 17 by omega); have t1 := HS0.out.t1
            skip
            rw [HB1.out] at p1
            simp only [bc, spX, atX] at p1
            skip
            go_upto_region 5 with fail
            go_quiet (fail)
            clear p1 t1
            have HN1 : Hid (MW w g n i r E0 A0 A1 A2 (World.drewN x0 nq)) := HS0.out.drew nq
            revert HN1
            generalize World.drewN x0 nq = v1
            intro HN1
            clear HS0
            have p2 := HN1.out.own.cell HI.out.1 (show 8 < 17 by omega); have t2 := HN1.out.t2
            skip
            rw [HB1.out] at p2
            simp only [bc, spX, atX] at p2
            skip
            go_upto_region 7 with fail
            go_quiet (fail)
            clear p2 t2
            have HN2 : Hid (MW w g n i r E0 A0 A1 A2 (World.drewN v1 nq)) := HN1.out.drew nq
            revert HN2
            generalize World.drewN v1 nq = v2
            intro HN2
            clear HN1
            have c := HN2.out.own.cell HI.out.1 (show 11 < 17 by omega); have f := HN2.out.own.free (i * 17 + 11)
            simp only [bc] at c
            obtain ⟨E2, hE2⟩ : ∃ E, E = upd E0 i (setZ (E0 i) 0) := ⟨_, rfl⟩
            have HS2 : Hid (MW w g n i r E2 A0 A1 A2 (World.setCell v2 ⟨g, i * 17 + 11, none⟩ (.int .i64 0))) := by rw [hE2]; exact HN2.out.turn (HN2.out.own.putZ HI.out.1 0) ((Only.refl [g] v2).setCell (p := ⟨g, i * 17 + 11, none⟩) (Or.inl (by simp)) _)
            have HB3 : Hid (E2 i = spX (atX q C0 C1 C2) (0) (q.vy) (0)) := by show E2 i = _; rw [hE2, upd_at, HB1.out]; rfl
            have HU3 : Hid (upd D1 i (E2 i) = E2) := by show upd D1 i (E2 i) = E2; rw [hE2, upd_at]; rw [← HU1.out, upd_twice, upd_at]
            go_wp2_with fail
            refine bodyPost_end (results_none rfl _ _ _) rfl ?_
            refine ⟨rfl, HFIN.out (E2 i) _ (by rw [HDI.out, HB3.out]; simp [h0, h1, h2]) (by rw [HU3.out]; exact HS2.out.own), HS2.out.only⟩
      · have b1 : (C1 == A1) = false := by simpa using h1
        by_cases h2 : C2 = A2
        · have b2 : (C2 == A2) = true := by simpa using h2
          as_aux_lemma =>
            go_quiet (fail)
            have H4 := H3.out.drew nq
            revert H4
            generalize World.drewN w3 nq = w4
            intro H4
            clear c6 c7 c8 s0 s1 s2 H3
            have HM0 : Hid (MW w g n i r D1 A0 A1 A2 w4) := H4
            clear H4
            have HE0 : Hid (D1 i = spX (D1 i) q.vx q.vy q.vz ∧ upd D1 i (D1 i) = D1) := ⟨by rw [HDI.out]; rfl, upd_none D1 i⟩
            have p0 := HM0.out.own.cell HI.out.1 (show 6 < 17 by omega); have t0 := HM0.out.t0
            skip
            rw [HDI.out] at p0
            simp only [bc, spX, atX] at p0
            skip
            go_upto_region 3 with fail
            go_quiet (fail)
            clear p0 t0
            have HN0 : Hid (MW w g n i r D1 A0 A1 A2 (World.drewN w4 nq)) := HM0.out.drew nq
            revert HN0
            generalize World.drewN w4 nq = v0
            intro HN0
            clear HM0
            have c := HN0.out.own.cell HI.out.1 (show 9 < 17 by omega); have f := HN0.out.own.free (i * 17 + 9)
            simp only [bc] at c
            obtain ⟨E0, hE0⟩ : ∃ E, E = upd D1 i (setX (D1 i) 0) := ⟨_, rfl⟩
            have HS0 : Hid (MW w g n i r E0 A0 A1 A2 (World.setCell v0 ⟨g, i * 17 + 9, none⟩ (.int .i64 0))) := by rw [hE0]; exact HN0.out.turn (HN0.out.own.putX HI.out.1 0) ((Only.refl [g] v0).setCell (p := ⟨g, i * 17 + 9, none⟩) (Or.inl (by simp)) _)
            have HB1 : Hid (E0 i = spX (atX q C0 C1 C2) (0) (q.vy) (q.vz)) := by show E0 i = _; rw [hE0, upd_at, HDI.out]; rfl
            have HU1 : Hid (upd D1 i (E0 i) = E0) := by show upd D1 i (E0 i) = E0; rw [hE0, upd_at]
            clear hE0
            go_upto_region 5 with fail
            clear c f
            revert HS0
            generalize World.setCell v0 _ _ = x0
            intro HS0
            clear HN0
            have p1 := HS0.out.own.cell HI.out.1 (show 7 < 17 by omega); have t1 := HS0.out.t1
            skip
            rw [HB1.out] at p1
            simp only [bc, spX, atX] at p1
            skip
            go_upto_region 5 with fail
            go_quiet (fail)
            clear p1 t1
            have HN1 : Hid (MW w g n i r E0 A0 A1 A2 (World.drewN x0 nq)) := HS0.out.drew nq
            revert HN1
            generalize World.drewN x0 nq = v1
            intro HN1
            clear HS0
            have c := HN1.out.own.cell HI.out.1 (show 10 < 17 by omega); have f := HN1.out.own.free (i * 17 + 10)
            simp only [bc] at c
            obtain ⟨E1, hE1⟩ : ∃ E, E = upd E0 i (setY (E0 i) 0) := ⟨_, rfl⟩
            have HS1 : Hid (MW w g n i r E1 A0 A1 A2 (World.setCell v1 ⟨g, i * 17 + 10, none⟩ (.int .i64 0))) := by rw [hE1]; exact HN1.out.turn (HN1.out.own.putY HI.out.1 0) ((Only.refl [g] v1).setCell (p := ⟨g, i * 17 + 10, none⟩) (Or.inl (by simp)) _)
            have HB2 : Hid (E1 i = spX (atX q C0 C1 C2) (0) (0) (q.vz)) := by show E1 i = _; rw [hE1, upd_at, HB1.out]; rfl
            have HU2 : Hid (upd D1 i (E1 i) = E1) := by show upd D1 i (E1 i) = E1; rw [hE1, upd_at]; rw [← HU1.out, upd_twice, upd_at]
            clear hE1
            go_upto_region 7 with fail
            clear c f
            revert HS1
            generalize World.setCell v1 _ _ = x1
            intro HS1
            clear HN1
            have p2 := HS1.out.own.cell HI.out.1 (show 8 < 17 by omega); have t2 := HS1.out.t2
            skip
            rw [HB2.out] at p2
            simp only [bc, spX, atX] at p2
            skip
            go_upto_region 7 with fail
            go_quiet (fail)
            clear p2 t2
            have HN2 : Hid (MW w g n i r E1 A0 A1 A2 (World.drewN x1 nq)) := HS1.out.drew nq
            revert HN2
            generalize World.drewN x1 nq = v2
            intro HN2
            clear HS1
            go_wp2_with fail
            refine bodyPost_end (results_none rfl _ _ _) rfl ?_
            refine ⟨rfl, HFIN.out (E1 i) _ (by rw [HDI.out, HB2.out]; simp [h0, h1, h2]) (by rw [HU2.out]; exact HN2.out.own), HN2.out.only⟩
        · have b2 : (C2 == A2) = false := by simpa using h2
          as_aux_lemma =>
            go_quiet (fail)
            have H4 := H3.out.drew nq
            revert H4
            generalize World.drewN w3 nq = w4
            intro H4
            clear c6 c7 c8 s0 s1 s2 H3
            have HM0 : Hid (MW w g n i r D1 A0 A1 A2 w4) := H4
            clear H4
            have HE0 : Hid (D1 i = spX (D1 i) q.vx q.vy q.vz ∧ upd D1 i (D1 i) = D1) := ⟨by rw [HDI.out]; rfl, upd_none D1 i⟩
            have p0 := HM0.out.own.cell HI.out.1 (show 6 < 17 by omega); have t0 := HM0.out.t0
            skip
            rw [HDI.out] at p0
            simp only [bc, spX, atX] at p0
            skip
            go_upto_region 3 with fail
            go_quiet (fail)
            clear p0 t0
            have HN0 : Hid (MW w g n i r D1 A0 A1 A2 (World.drewN w4 nq)) := HM0.out.drew nq
            revert HN0
            generalize World.drewN w4 nq = v0
            intro HN0
            clear HM0
            have c := HN0.out.own.cell HI.out.1 (show 9 < 17 by omega); have f := HN0.out.own.free (i * 17 + 9)
            simp only [bc] at c
            obtain ⟨E0, hE0⟩ : ∃ E, E = upd D1 i (setX (D1 i) 0) := ⟨_, rfl⟩
            have HS0 : Hid (MW w g n i r E0 A0 A1 A2 (World.setCell v0 ⟨g, i * 17 + 9, none⟩ (.int .i64 0))) := by rw [hE0]; exact HN0.out.turn (HN0.out.own.putX HI.out.1 0) ((Only.refl [g] v0).setCell (p := ⟨g, i * 17 + 9, none⟩) (Or.inl (by simp)) _)
            have HB1 : Hid (E0 i = spX (atX q C0 C1 C2) (0) (q.vy) (q.vz)) := by show E0 i = _; rw [hE0, upd_at, HDI.out]; rfl
            have HU1 : Hid (upd D1 i (E0 i) = E0) := by show upd D1 i (E0 i) = E0; rw [hE0, upd_at]
            clear hE0
            go_upto_region 5 with fail
            clear c f
            revert HS0
            generalize World.setCell v0 _ _ = x0
            intro HS0
            clear HN0
            have p1 := HS0.out.own.cell HI.out.1 (show 7 < 17 by omega); have t1 := HS0.out.t1
            skip
            rw [HB1.out] at p1
            simp only [bc, spX, atX] at p1
            skip
            go_upto_region 5 with fail
            go_quiet (fail)
            clear p1 t1
            have HN1 : Hid (MW w g n i r E0 A0 A1 A2 (World.drewN x0 nq)) := HS0.out.drew nq
            revert HN1
            generalize World.drewN x0 nq = v1
            intro HN1
            clear HS0
            have c := HN1.out.own.cell HI.out.1 (show 10 < 17 by omega); have f := HN1.out.own.free (i * 17 + 10)
            simp only [bc] at c
            obtain ⟨E1, hE1⟩ : ∃ E, E = upd E0 i (setY (E0 i) 0) := ⟨_, rfl⟩
            have HS1 : Hid (MW w g n i r E1 A0 A1 A2 (World.setCell v1 ⟨g, i * 17 + 10, none⟩ (.int .i64 0))) := by rw [hE1]; exact HN1.out.turn (HN1.out.own.putY HI.out.1 0) ((Only.refl [g] v1).setCell (p := ⟨g, i * 17 + 10, none⟩) (Or.inl (by simp)) _)
            have HB2 : Hid (E1 i = spX (atX q C0 C1 C2) (0) (0) (q.vz)) := by show E1 i = _; rw [hE1, upd_at, HB1.out]; rfl
            have HU2 : Hid (upd D1 i (E1 i) = E1) := by show upd D1 i (E1 i) = E1; rw [hE1, upd_at]; rw [← HU1.out, upd_twice, upd_at]
            clear hE1
            go_upto_region 7 with fail
            clear c f
            revert HS1
            generalize World.setCell v1 _ _ = x1
            intro HS1
            clear HN1
            have p2 := HS1.out.own.cell HI.out.1 (show 8 < 17 by omega); have t2 := HS1.out.t2
            skip
            rw [HB2.out] at p2
            simp only [bc, spX, atX] at p2
            skip
            go_upto_region 7 with fail
            go_quiet (fail)
            clear p2 t2
            have HN2 : Hid (MW w g n i r E1 A0 A1 A2 (World.drewN x1 nq)) := HS1.out.drew nq
            revert HN2
            generalize World.drewN x1 nq = v2
            intro HN2
            clear HS1
            have c := HN2.out.own.cell HI.out.1 (show 11 < 17 by omega); have f := HN2.out.own.free (i * 17 + 11)
            simp only [bc] at c
            obtain ⟨E2, hE2⟩ : ∃ E, E = upd E1 i (setZ (E1 i) 0) := ⟨_, rfl⟩
            have HS2 : Hid (MW w g n i r E2 A0 A1 A2 (World.setCell v2 ⟨g, i * 17 + 11, none⟩ (.int .i64 0))) := by rw [hE2]; exact HN2.out.turn (HN2.out.own.putZ HI.out.1 0) ((Only.refl [g] v2).setCell (p := ⟨g, i * 17 + 11, none⟩) (Or.inl (by simp)) _)
            have HB3 : Hid (E2 i = spX (atX q C0 C1 C2) (0) (0) (0)) := by show E2 i = _; rw [hE2, upd_at, HB2.out]; rfl
            have HU3 : Hid (upd D1 i (E2 i) = E2) := by show upd D1 i (E2 i) = E2; rw [hE2, upd_at]; rw [← HU2.out, upd_twice, upd_at]
            go_wp2_with fail
            refine bodyPost_end (results_none rfl _ _ _) rfl ?_
            refine ⟨rfl, HFIN.out (E2 i) _ (by rw [HDI.out, HB3.out]; simp [h0, h1, h2]) (by rw [HU3.out]; exact HS2.out.own), HS2.out.only⟩
end Go.Proofs.YtbfkloclmlnahabGreat

namespace Go.Proofs.YtbfkloclmlnahabGreat
open Go.ChangeShapes Go.WideShapes Go.ChangeAt Go.RowKit
set_option linter.unusedVariables false
set_option linter.unusedSimpArgs false

def mapTo (f : Bd → Bd) (B : Nat → Bd) (p : Nat) : Nat → Bd := fun j => if j < p then f (B j) else B j
theorem mapTo_zero (f : Bd → Bd) (B : Nat → Bd) : mapTo f B 0 = B := by funext j; simp [mapTo]
theorem mapTo_at (f : Bd → Bd) (B : Nat → Bd) (p : Nat) : mapTo f B p p = B p := by simp [mapTo]
theorem mapTo_succ (f : Bd → Bd) (B : Nat → Bd) (p : Nat) : mapTo f B (p + 1) = upd (mapTo f B p) p (f (B p)) := by
  funext j
  unfold mapTo upd
  by_cases e : j = p
  · subst e; simp
  · by_cases h : j < p
    · simp [e, h, show j < p + 1 by omega]
    · simp [e, h, show ¬ j < p + 1 by omega]
/-- What holds of a world and its bodies while each goes over them. -/
structure EW (w : World) (x g : Nat) (c : Wc) (a : Option Addr) (n cap t : Nat) (la st : Int) (C : Nat → Bd) (wr : World) : Prop where
  wa : WorldAt wr x c a n cap t la st
  own : OwnS wr a g n C
  only : Only [g] w wr
set_option maxRecDepth 100000 in
set_option maxHeartbeats 2000000 in
theorem eachDrive_calls (x g : Nat) (c : Wc) (a : Option Addr) (n cap t : Nat) (la st : Int) (B : Nat → Bd) (w : World) (hn : n ≤ 60) (hw : WorldAt w x c a n cap t la st) (h : OwnS w a g n B) (hxg : n ≠ 0 → x ≠ g) :
    Calls Tryz.prog 20 #[.pointer (some ⟨x, 0, none⟩), .func (.func 21) #[.pointer (some ⟨x, 0, none⟩)] #[]] w fun e w' => e = .returned (.tuple #[]) ∧ EW w x g c a n cap t la st (mapTo (driveB c) B n) w' := by
  have HB : Hid (n ≤ 60 ∧ (n ≠ 0 → x ≠ g)) := ⟨hn, hxg⟩
  have H0 : Hid (EW w x g c a n cap t la st B w) := ⟨hw, h, Only.refl _ _⟩
  have s7 := hw.off 7
  simp only [zqg, zqh, zqi] at s7
  clear hn hxg h hw
  go_enter Tryz.func20, Tryz.ntmps20
  go_wp2_with fail
  clear s7
  go_loopg [10] n (fun k idx wr => ∃ i : Nat, idx = .int .i64 (i : Int) ∧ Hid (i ≤ n ∧ k = n - i) ∧ Hid (EW w x g c a n cap t la st (mapTo (driveB c) B i) wr))
  case atStart => exact ⟨0, rfl, ⟨by omega, rfl⟩, by rw [mapTo_zero]; exact H0⟩
  case round =>
    clear H0
    obtain ⟨i, rfl, H1, HE⟩ := hrel
    have hn := HB.out.1
    by_cases hi : i < n
    · have hil : (i : Int) < (n : Int) := by omega
      obtain ⟨ha, hO⟩ : a = some ⟨g, 0, none⟩ ∧ OwnB wr g n (mapTo (driveB c) B i) := by
        rcases HE.out.own with q | q
        · omega
        · exact q
      subst ha
      have HOO : Hid (OwnB wr g n (mapTo (driveB c) B i)) := hO
      clear hO
      have s7 := HE.out.wa.off 7
      simp only [zqg, zqh, zqi] at s7
      go_wp2_with fail
      refine (show Calls Tryz.prog 21 #[.pointer (some ⟨x, 0, none⟩), .pointer (some ⟨g, i * 17, none⟩)] wr _ from drive_calls x g n i c (some ⟨g, 0, none⟩) n cap t la st (mapTo (driveB c) B i) wr HE.out.wa HOO.out hi hn (HB.out.2 (by omega))).mono ?_
      rintro e w2 ⟨rfl, hO2, o2⟩
      have H2 : Hid (EW w x g c (some ⟨g, 0, none⟩) n cap t la st (mapTo (driveB c) B (i + 1)) w2) :=
        ⟨HE.out.wa.only o2 (by simp only [List.mem_singleton]; exact HB.out.2 (by omega)), Or.inr ⟨rfl, by rw [mapTo_succ, ← mapTo_at (driveB c) B i]; exact hO2⟩, HE.out.only.trans o2⟩
      clear hO2 o2 s7
      go_wp2_with fail
      go_roundg (n - (i + 1))
      case measure => have := H1.out.2; omega
      case rel => exact ⟨i + 1, by go_num, ⟨by omega, rfl⟩, H2⟩
    · have hil : ¬ (i : Int) < (n : Int) := by omega
      obtain rfl : i = n := by have := H1.out.1; omega
      go_wp2_with fail
      refine bodyPost_end (results_none rfl _ _ _) rfl ?_
      exact ⟨rfl, HE.out⟩
set_option maxRecDepth 100000 in
set_option maxHeartbeats 2000000 in
theorem eachMove_calls (x g : Nat) (c : Wc) (a : Option Addr) (n cap t : Nat) (la st : Int) (B : Nat → Bd) (w : World) (hn : n ≤ 60) (hw : WorldAt w x c a n cap t la st) (h : OwnS w a g n B) (hxg : n ≠ 0 → x ≠ g) :
    Calls Tryz.prog 20 #[.pointer (some ⟨x, 0, none⟩), .func (.func 23) #[] #[]] w fun e w' => e = .returned (.tuple #[]) ∧ EW w x g c a n cap t la st (mapTo (moveB) B n) w' := by
  have HB : Hid (n ≤ 60 ∧ (n ≠ 0 → x ≠ g)) := ⟨hn, hxg⟩
  have H0 : Hid (EW w x g c a n cap t la st B w) := ⟨hw, h, Only.refl _ _⟩
  have s7 := hw.off 7
  simp only [zqg, zqh, zqi] at s7
  clear hn hxg h hw
  go_enter Tryz.func20, Tryz.ntmps20
  go_wp2_with fail
  clear s7
  go_loopg [10] n (fun k idx wr => ∃ i : Nat, idx = .int .i64 (i : Int) ∧ Hid (i ≤ n ∧ k = n - i) ∧ Hid (EW w x g c a n cap t la st (mapTo (moveB) B i) wr))
  case atStart => exact ⟨0, rfl, ⟨by omega, rfl⟩, by rw [mapTo_zero]; exact H0⟩
  case round =>
    clear H0
    obtain ⟨i, rfl, H1, HE⟩ := hrel
    have hn := HB.out.1
    by_cases hi : i < n
    · have hil : (i : Int) < (n : Int) := by omega
      obtain ⟨ha, hO⟩ : a = some ⟨g, 0, none⟩ ∧ OwnB wr g n (mapTo (moveB) B i) := by
        rcases HE.out.own with q | q
        · omega
        · exact q
      subst ha
      have HOO : Hid (OwnB wr g n (mapTo (moveB) B i)) := hO
      clear hO
      have s7 := HE.out.wa.off 7
      simp only [zqg, zqh, zqi] at s7
      go_wp2_with fail
      refine (show Calls Tryz.prog 23 #[.pointer (some ⟨g, i * 17, none⟩)] wr _ from move_calls g n i (mapTo moveB B i) wr HOO.out hi hn).mono ?_
      rintro e w2 ⟨rfl, hO2, o2⟩
      have H2 : Hid (EW w x g c (some ⟨g, 0, none⟩) n cap t la st (mapTo (moveB) B (i + 1)) w2) :=
        ⟨HE.out.wa.only o2 (by simp only [List.mem_singleton]; exact HB.out.2 (by omega)), Or.inr ⟨rfl, by rw [mapTo_succ, ← mapTo_at (moveB) B i]; exact hO2⟩, HE.out.only.trans o2⟩
      clear hO2 o2 s7
      go_wp2_with fail
      go_roundg (n - (i + 1))
      case measure => have := H1.out.2; omega
      case rel => exact ⟨i + 1, by go_num, ⟨by omega, rfl⟩, H2⟩
    · have hil : ¬ (i : Int) < (n : Int) := by omega
      obtain rfl : i = n := by have := H1.out.1; omega
      go_wp2_with fail
      refine bodyPost_end (results_none rfl _ _ _) rfl ?_
      exact ⟨rfl, HE.out⟩
end Go.Proofs.YtbfkloclmlnahabGreat

namespace Go.Proofs.YtbfkloclmlnahabGreat
open Go.ChangeShapes Go.WideShapes Go.ChangeAt Go.RowKit
open Go.Maps (Keyed)
set_option linter.unusedVariables false
set_option linter.unusedSimpArgs false

/-- How an element of the book reads: a node by its block. -/
def nodeElem : Value → Option (DataW Unit × List MemPlace)
  | .pointer none => some (.nil, [])
  | .pointer (some ⟨b, 0, none⟩) => some (.lit (.int .i64 b), [])
  | _ => none
theorem nodeElem_some {v : Value} {b : Nat} {ps : List MemPlace} (h : nodeElem v = some (.lit (.int .i64 b), ps)) : v = .pointer (some ⟨b, 0, none⟩) := by
  unfold nodeElem at h
  split at h
  · cases h
  · simp only [Option.some.injEq, Prod.mk.injEq, DataW.lit.injEq, Lit.int.injEq, true_and] at h
    have := Int.ofNat.inj h.1
    rw [this]
  · cases h
theorem nodeElem_none {v : Value} {ps : List MemPlace} (h : nodeElem v = some (.nil, ps)) : v = .pointer none := by
  unfold nodeElem at h
  split at h
  · rfl
  · cases h
  · cases h
@[reducible] def key (i : Int) : Lit := .int .i64 i
theorem key_ne {i j : Int} (h : i ≠ j) : key i ≠ key j := fun e => h (by injection e)
theorem keyLit (i : Int) : WideAt.IsKeyLit (key i) := trivial
/-- The book has just these leaves. -/
structure Book (D : DataW Unit) (L : List Lf) : Prop where
  tidy : Maps.Tidy D
  nodup : (L.map Lf.id).Nodup
  there : ∀ x ∈ L, D.atKey (key x.id) .nil = .lit (.int .i64 x.b)
  has : ∀ i, Maps.has D (key i) = true ↔ i ∈ L.map Lf.id
  size : Maps.size D = L.length
theorem Book.perm {D : DataW Unit} {L L' : List Lf} (h : Book D L) (p : L.Perm L') : Book D L' :=
  ⟨h.tidy, (p.map _).nodup h.nodup, fun x hx => h.there x (p.mem_iff.2 hx), fun i => (h.has i).trans (p.map _).mem_iff, h.size.trans p.length_eq⟩
theorem Book.gone {D : DataW Unit} {L : List Lf} (h : Book D L) {i : Int} (hi : i ∉ L.map Lf.id) : Maps.has D (key i) = false := by
  cases hh : Maps.has D (key i)
  · rfl
  · exact absurd ((h.has i).1 hh) hi
theorem Book.empty : Book (.map []) [] := ⟨Maps.tidy_empty, by simp, by simp, fun i => by simp [Maps.has], rfl⟩
theorem Book.put {D : DataW Unit} {L : List Lf} (h : Book D L) {x : Lf} (hx : x.id ∉ L.map Lf.id) : Book (D.put (key x.id) (.lit (.int .i64 x.b))) (x :: L) := by
  refine ⟨h.tidy.put (keyLit _) _, by simp only [List.map_cons, List.nodup_cons]; exact ⟨hx, h.nodup⟩, fun y hy => ?_, fun i => ?_, ?_⟩
  · rcases List.mem_cons.1 hy with rfl | hy
    · exact Maps.atKey_put_same h.tidy.isMap (keyLit _) _ _
    · rw [Maps.atKey_put_other (key_ne (fun e => hx (by rw [← e]; exact List.mem_map_of_mem hy)))]; exact h.there y hy
  · by_cases e : i = x.id
    · subst e; simp [Maps.has_put_same h.tidy.isMap (keyLit _)]
    · rw [Maps.has_put_other (key_ne e), h.has i]; simp [e]
  · rw [Maps.size_put h.tidy, h.gone hx]; simp [h.size]
/-- A number that is there gets another node. -/
theorem Book.swap {D : DataW Unit} {L : List Lf} {x y : Lf} (h : Book D (x :: L)) (e : y.id = x.id) : Book (D.put (key y.id) (.lit (.int .i64 y.b))) (y :: L) := by
  have hn := h.nodup
  simp only [List.map_cons, List.nodup_cons] at hn
  refine ⟨h.tidy.put (keyLit _) _, by simp only [List.map_cons, List.nodup_cons, e]; exact hn, fun z hz => ?_, fun i => ?_, ?_⟩
  · rcases List.mem_cons.1 hz with rfl | hz
    · exact Maps.atKey_put_same h.tidy.isMap (keyLit _) _ _
    · rw [Maps.atKey_put_other (key_ne (fun q => hn.1 (by rw [← e, ← q]; exact List.mem_map_of_mem hz)))]; exact h.there z (List.mem_cons_of_mem _ hz)
  · by_cases q : i = y.id
    · subst q; simp [Maps.has_put_same h.tidy.isMap (keyLit _)]
    · rw [Maps.has_put_other (key_ne q), h.has i]; simp [e]
  · rw [Maps.size_put h.tidy, (h.has y.id).2 (by simp [e])]; simp [h.size]
/-- Its box alone has turned. -/
theorem Book.box {D : DataW Unit} {L : List Lf} {x y : Lf} (h : Book D (x :: L)) (e : y.id = x.id) (eb : y.b = x.b) : Book D (y :: L) := by
  refine ⟨h.tidy, by simpa [e] using h.nodup, fun z hz => ?_, fun i => by simpa [e] using h.has i, by simpa using h.size⟩
  rcases List.mem_cons.1 hz with rfl | hz
  · rw [e, eb]; exact h.there x (by simp)
  · exact h.there z (List.mem_cons_of_mem _ hz)

theorem intKey : Keyed Tryz.prog 3 := Maps.int_keyed Tryz.underlying3
theorem zeroPtr (w : World) : (zeroValue 91).run Tryz.prog w = .ok (.pointer none) w := by kernel_rfl
def In64 (i : Int) : Prop := (Lit.int .i64 i).wf = true
theorem keyIs {i : Int} (h : In64 i) : keyOf Tryz.prog 3 (.int .i64 i) = some (key i) := Maps.keyOf_int_mk Tryz.underlying3 h
def MapIs (w : World) : Option Nat → List Lf → Prop
  | none, L => L = []
  | some m, L => ∃ MD : DataW Unit, w.ownsMap Tryz.prog 3 nodeElem m L.length MD ∧ Book MD L
theorem MapIs.only {D : List Nat} {w w' : World} (o : Only D w w') {lv : Option Nat} {L : List Lf} (s : ∀ m ∈ lv.toList, m ∉ D) (h : MapIs w lv L) : MapIs w' lv L := by
  cases lv with
  | none => exact h
  | some m =>
    obtain ⟨MD, h1, h2⟩ := h
    have hlt := h1.lt
    obtain ⟨es, clock, hb, r⟩ := h1
    exact ⟨MD, ⟨es, clock, (o.block m hlt (s m (by simp))).trans hb, r⟩, h2⟩
theorem MapIs.perm {w : World} {lv : Option Nat} {L L' : List Lf} (h : MapIs w lv L) (p : L.Perm L') : MapIs w lv L' := by
  cases lv with
  | none => simp only [MapIs] at h ⊢; subst h; exact List.nil_perm.1 p
  | some m => obtain ⟨MD, h1, h2⟩ := h; exact ⟨MD, by rw [← p.length_eq]; exact h1, h2.perm p⟩
theorem ownsMap_fit {w : World} {m n : Nat} {MD : DataW Unit} {L : List Lf} (h : w.ownsMap Tryz.prog 3 nodeElem m n MD) (b : Book MD L) : w.ownsMap Tryz.prog 3 nodeElem m L.length MD := by
  obtain ⟨es, clock, hb, F, hs, rfl⟩ := h
  refine ⟨es, clock, hb, F, ?_, rfl⟩
  have := b.size
  simp only [Maps.size, length_sorted, List.length_map, Array.length_toList] at this
  omega
/-- 'v, ok := t.leaves[id]'. -/
theorem MapIs.look_none {w : World} {lv : Option Nat} {L : List Lf} (h : MapIs w lv L) {i : Int} (hi : In64 i) (hn : i ∉ L.map Lf.id) : (Instr.lookup 92 (.map lv) (.int .i64 i) true).run Tryz.prog w = .ok (.tuple #[.pointer none, .bool false]) w := by
  cases lv with
  | none => exact Maps.look_nil true intKey Tryz.underlying92 (zeroPtr w) (keyIs hi)
  | some m =>
    obtain ⟨MD, h1, h2⟩ := h
    obtain ⟨v, ps, hr, hv⟩ := h1.look_ok intKey Tryz.underlying92 (zeroPtr w) (zd := .nil) (zp := []) rfl (keyIs hi)
    have hf := h2.gone hn
    rw [Maps.atKey_of_not_has hf] at hv
    rw [hr, hf, nodeElem_none hv]
theorem MapIs.look_some {w : World} {lv : Option Nat} {L : List Lf} (h : MapIs w lv L) {x : Lf} (hi : In64 x.id) (hx : x ∈ L) : (Instr.lookup 92 (.map lv) (.int .i64 x.id) true).run Tryz.prog w = .ok (.tuple #[.pointer (some ⟨x.b, 0, none⟩), .bool true]) w := by
  cases lv with
  | none => simp only [MapIs] at h; subst h; simp at hx
  | some m =>
    obtain ⟨MD, h1, h2⟩ := h
    obtain ⟨v, ps, hr, hv⟩ := h1.look_ok intKey Tryz.underlying92 (zeroPtr w) (zd := .nil) (zp := []) rfl (keyIs hi)
    rw [h2.there x hx] at hv
    rw [hr, (h2.has x.id).2 (List.mem_map_of_mem hx), nodeElem_some hv]
theorem MapIs.len {w : World} {lv : Option Nat} {L : List Lf} (h : MapIs w lv L) (ty : TypeId) : (Builtin.len_ #[92] ty #[.map lv]).run Tryz.prog w = .ok (.int .i64 (L.length)) w := by
  cases lv with
  | none => simp only [MapIs] at h; subst h; exact Maps.len_nil Tryz.underlying92 ty
  | some m =>
    obtain ⟨MD, h1, h2⟩ := h
    rw [h1.len Tryz.underlying92 ty, h2.size]

/-- A whole tree. -/
structure Whole (w : World) (t : Nat) (fat : Int) (T : Option Tr) (lv : Option Nat) : Prop where
  tree : TreeAt w t fat (rootO T) lv
  inn : InO w T
  fits : ∀ x ∈ leavesO T, withinX x.box x.room = true
  book : MapIs w lv (leavesO T)
  nodup : (t :: (lv.toList ++ blocksO T)).Nodup
def boxesOf (L : List Lf) : List (Int × Bx) := L.map fun x => (x.id, x.box)
structure TreeIs (w : World) (t : Nat) (fat : Int) (D : List Nat) (M : List (Int × Bx)) : Prop where
  ex : ∃ T lv, Whole w t fat T lv ∧ D = t :: (lv.toList ++ blocksO T) ∧ M.Perm (boxesOf (leavesO T))
  fat0 : 0 ≤ fat ∧ fat ≤ 3276800
  small : M.length ≤ 60
  keys : (M.map Prod.fst).Nodup
  ids : ∀ p ∈ M, In64 p.1
theorem Whole.only {D : List Nat} {w w' : World} {t : Nat} {fat : Int} {T : Option Tr} {lv : Option Nat} (h : Whole w t fat T lv) (o : Only D w w') (s : ∀ b ∈ t :: (lv.toList ++ blocksO T), b ∉ D) : Whole w' t fat T lv :=
  ⟨o.tree (s t (by simp)) h.tree, h.inn.only o (fun b hb => s b (by simp [hb])), h.fits, h.book.only o (fun m hm => s m (List.mem_cons_of_mem _ (List.mem_append_left _ hm))), h.nodup⟩
theorem TreeIs.only {D E : List Nat} {w w' : World} {t : Nat} {fat : Int} {M : List (Int × Bx)} (h : TreeIs w t fat D M) (o : Only E w w') (s : ∀ b ∈ D, b ∉ E) : TreeIs w' t fat D M := by
  obtain ⟨T, lv, hw, hD, hM⟩ := h.ex
  exact ⟨⟨T, lv, hw.only o (fun b hb => s b (hD ▸ hb)), hD, hM⟩, h.fat0, h.small, h.keys, h.ids⟩
theorem TreeIs.lt {w : World} {t : Nat} {fat : Int} {D : List Nat} {M : List (Int × Bx)} (h : TreeIs w t fat D M) : ∀ b ∈ D, b < w.heap.size := by
  obtain ⟨T, lv, hw, rfl, hM⟩ := h.ex
  intro b hb
  simp only [List.mem_cons, List.mem_append] at hb
  rcases hb with rfl | hb | hb
  · exact hw.tree.lt
  · cases lv with
    | none => simp at hb
    | some m => simp at hb; subst hb; obtain ⟨MD, h1, _⟩ := hw.book; exact h1.lt
  · cases T with
    | none => simp [blocksO] at hb
    | some T => exact hw.inn.1.lt b hb
theorem boxes_keys (L : List Lf) : (boxesOf L).map Prod.fst = L.map Lf.id := by simp [boxesOf, Function.comp_def]

theorem new_calls (fat : Int) (w : World) (h0 : 0 ≤ fat) (h1 : fat ≤ 3276800) : Calls Tryz.prog 34 #[.int .i64 fat] w fun e w' => ∃ t, e = .returned (.tuple #[.pointer (some ⟨t, 0, none⟩), .nilIface]) ∧ TreeIs w' t fat [t] [] ∧ w.heap.size ≤ t ∧ Only [] w w' := by
  have t0 : ¬ fat < 0 := by omega
  have t1 : ¬ 3276800 < fat := by omega
  go_enter Tryz.func34, Tryz.ntmps34
  go_wp2_with fail
  go_ret2
  refine ⟨w.heap.size, rfl, ⟨⟨none, none, ⟨(MapKept.heap_alloc w _).1, trivial, by simp [leavesO], rfl, by simp [blocksO]⟩, rfl, by simp [boxesOf, leavesO]⟩, ⟨h0, h1⟩, by simp, by simp, by simp⟩, Nat.le_refl _, (Only.refl [] w).alloc _⟩
end Go.Proofs.YtbfkloclmlnahabGreat

namespace Go.Proofs.YtbfkloclmlnahabGreat
open Go.ChangeShapes Go.WideShapes Go.ChangeAt Go.RowKit
open Go.Maps (Keyed)
set_option linter.unusedVariables false
set_option linter.unusedSimpArgs false

def del (M : List (Int × Bx)) (i : Int) : List (Int × Bx) := M.filter (fun p => p.1 != i)
def put (M : List (Int × Bx)) (i : Int) (q : Bx) : List (Int × Bx) := (i, q) :: del M i
theorem del_none {M : List (Int × Bx)} {i : Int} (h : i ∉ M.map Prod.fst) : del M i = M := by
  unfold del; rw [List.filter_eq_self]
  intro p hp
  simp only [bne_iff_ne, ne_eq]
  exact fun e => h (by rw [← e]; exact List.mem_map_of_mem hp)
theorem del_head {M : List (Int × Bx)} {i : Int} {q : Bx} (h : i ∉ M.map Prod.fst) : del ((i, q) :: M) i = M := by
  have := del_none h
  unfold del at this ⊢
  simp [this]
theorem del_perm {M N : List (Int × Bx)} (p : M.Perm N) (i : Int) : (del M i).Perm (del N i) := p.filter _
/-- A number that is there: its leaf, and what is left. -/
theorem TreeIs.find {w : World} {t : Nat} {fat : Int} {D : List Nat} {M : List (Int × Bx)} (h : TreeIs w t fat D M) {i : Int} (hi : i ∈ M.map Prod.fst) :
    ∃ T m x, Whole w t fat (some T) (some m) ∧ D = t :: m :: T.blocks ∧ M.Perm (boxesOf T.leaves) ∧ x ∈ T.leaves ∧ x.id = i := by
  obtain ⟨T, lv, hw, hD, hM⟩ := h.ex
  have hi' : i ∈ (leavesO T).map Lf.id := by rw [← boxes_keys]; exact (hM.map _).mem_iff.1 hi
  obtain ⟨x, hx, rfl⟩ := List.mem_map.1 hi'
  cases T with
  | none => simp [leavesO] at hx
  | some T =>
    cases lv with
    | none => have := hw.book; simp only [MapIs, leavesO] at this hx; rw [this] at hx; simp at hx
    | some m => exact ⟨T, m, x, hw, hD, hM, hx, rfl⟩
theorem TreeIs.miss {w : World} {t : Nat} {fat : Int} {D : List Nat} {M : List (Int × Bx)} (h : TreeIs w t fat D M) {i : Int} (hi : i ∉ M.map Prod.fst) :
    ∃ T lv, Whole w t fat T lv ∧ D = t :: (lv.toList ++ blocksO T) ∧ M.Perm (boxesOf (leavesO T)) ∧ i ∉ (leavesO T).map Lf.id := by
  obtain ⟨T, lv, hw, hD, hM⟩ := h.ex
  exact ⟨T, lv, hw, hD, hM, fun h => hi ((hM.map _).mem_iff.2 (by rw [boxes_keys]; exact h))⟩

theorem perm_find {L : List Lf} {x : Lf} (h : x ∈ L) : ∃ L', L.Perm (x :: L') := by
  obtain ⟨s, t, rfl⟩ := List.append_of_mem h
  exact ⟨s ++ t, List.perm_middle⟩
end Go.Proofs.YtbfkloclmlnahabGreat

namespace Go.Proofs.YtbfkloclmlnahabGreat
open Go.ChangeShapes Go.WideShapes Go.ChangeAt Go.RowKit
open Go.Maps (Keyed)
set_option linter.unusedVariables false
set_option linter.unusedSimpArgs false

section
variable {P : Program} (w : World)
theorem equalIn_map (d : Nat) {t k e : TypeId} (m : Option Nat) (ht : P.underlying t = some (.map k e)) : (Op.equalIn (d + 1) t (.map m) (.map none)).run P w = .ok m.isNone w := by
  cases m <;> simp [Op.equalIn, run_underlying ht]
theorem eql_map {t k e : TypeId} (m : Option Nat) (ht : P.underlying t = some (.map k e)) : (binOp .eql t (.map m) (.map none)).run P w = .ok (.bool m.isNone) w := by
  simp only [binOp]
  simp [Op.equal, Op.maxDepth, equalIn_map w 9999 m ht]
end
theorem eqlBook (m : Option Nat) (w : World) : (binOp .eql 92 (.map m) (.map none)).run Tryz.prog w = .ok (.bool m.isNone) w := eql_map w m Tryz.underlying92
def FK (k : Nat) (q : Bx) (t : Nat) (fat : Int) (w w' : World) : Prop := Kept w w' ∧ w'.cell? ⟨k, 0, none⟩ = some (.int .i64 q.x0) ∧ w'.cell? ⟨k, 1, none⟩ = some (.int .i64 q.x1) ∧ w'.cell? ⟨k, 2, none⟩ = some (.int .i64 q.x2) ∧ w'.cell? ⟨k, 3, none⟩ = some (.int .i64 q.x3) ∧ w'.cell? ⟨k, 4, none⟩ = some (.int .i64 q.x4) ∧ w'.cell? ⟨k, 5, none⟩ = some (.int .i64 q.x5) ∧ w'.cell? ⟨t, 0, none⟩ = some (.int .i64 fat)
theorem FK.of {k : Nat} {q : Bx} {t : Nat} {fat : Int} {r lv : Option Nat} {w w' : World} (kk : Kept w w') (hq : BoxAt w k q) (ht : TreeAt w t fat r lv) : FK k q t fat w w' := by
  have h := (Only.of_kept (D := []) kk).box (by simp) hq
  have h3 := (Only.of_kept (D := []) kk).tree (by simp) ht
  exact ⟨kk, h.off 0, h.off 1, h.off 2, h.off 3, h.off 4, h.off 5, h3.c0⟩
/-- What holds ahead of the new leaf: the tree without the number; the book takes it. -/
structure Tail (i : Int) (q : Bx) (t : Nat) (fat : Int) (m : Nat) (T : Option Tr) (MD : DataW Unit) (w : World) : Prop where
  tree : TreeAt w t fat (rootO T) (some m)
  inn : InO w T
  own : w.ownsMap Tryz.prog 3 nodeElem m 70 MD
  book : ∀ b room, Book (MD.put (key i) (.lit (.int .i64 (b : Nat)))) (⟨b, i, q, room⟩ :: leavesO T)
  nodup : (t :: m :: blocksO T).Nodup
  fits : ∀ x ∈ leavesO T, withinX x.box x.room = true
  len : (leavesO T).length < 60
theorem Tail.only {i : Int} {q : Bx} {t : Nat} {fat : Int} {m : Nat} {T : Option Tr} {MD : DataW Unit} {D : List Nat} {w w' : World} (h : Tail i q t fat m T MD w) (o : Only D w w') (s : ∀ b ∈ t :: m :: blocksO T, b ∉ D) : Tail i q t fat m T MD w' := by
  have hlt := h.own.lt
  obtain ⟨es, clock, hb, r⟩ := h.own
  exact ⟨o.tree (s t (by simp)) h.tree, h.inn.only o (fun b hb => s b (by simp [hb])), ⟨es, clock, (o.block m hlt (s m (by simp))).trans hb, r⟩, h.book, h.nodup, h.fits, h.len⟩
/-- What Put leaves. -/
def PutPost (w : World) (t : Nat) (fat : Int) (m : Nat) (T : Option Tr) (x : Lf) (w' : World) : Prop :=
  ∃ T', Whole w' t fat (some T') (some m) ∧ T'.leaves.Perm (x :: leavesO T) ∧ (∀ b ∈ T'.blocks, b ∈ x.b :: blocksO T ∨ w.heap.size ≤ b) ∧ Only (x.b :: t :: m :: blocksO T) w w'
theorem hang_tail {i : Int} {q : Bx} {t : Nat} {fat : Int} {m lf : Nat} {T : Option Tr} {MD : DataW Unit} {w6 w7 : World} (h : Tail i q t fat m T MD w6) (n6 : NodeAt w6 lf ((Tr.leaf lf i q (fatX q fat)).nd none)) (hown : w7.ownsMap Tryz.prog 3 nodeElem m (70 + 1) (MD.put (key i) (.lit (.int .i64 (lf : Nat)))))
    (o7 : Only [m] w6 w7) (hlf : lf ∉ t :: m :: blocksO T) (hw : withinX q (fatX q fat) = true) :
    Calls Tryz.prog 75 #[.pointer (some ⟨t, 0, none⟩), .pointer (some ⟨lf, 0, none⟩)] w7 fun e w' => e = .returned (.tuple #[]) ∧ PutPost w6 t fat m T ⟨lf, i, q, fatX q fat⟩ w' := by
  have nd := h.nodup
  simp only [List.nodup_cons, List.mem_cons, not_or] at nd hlf
  have hbm : ∀ b ∈ blocksO T, b ∉ [m] := fun b hb => by simp; exact fun e => nd.2.1 (e ▸ hb)
  refine (hang_calls t fat (some m) T ⟨lf, i, q, fatX q fat⟩ w7 (by simp only [List.nodup_cons, List.mem_cons, not_or]; exact ⟨⟨hlf.1, hlf.2.2⟩, nd.1.2, nd.2.2⟩) (by have := h.len; omega) (h.inn.only o7 hbm) (o7.tree (by simp [nd.1.1]) h.tree) (o7.node (by simp [hlf.2.1]) n6)).mono ?_
  rintro e w' ⟨rfl, T', hi, ht, hp, hn, hsub, o⟩
  have hm : m ∉ lf :: t :: blocksO T := by simp only [List.mem_cons, not_or]; exact ⟨fun e => hlf.2.1 e.symm, fun e => nd.1.1 e.symm, nd.2.1⟩
  have hmlt := hown.lt
  have hbk := (h.book lf (fatX q fat)).perm hp.symm
  have hown' : w'.ownsMap Tryz.prog 3 nodeElem m (70 + 1) (MD.put (key i) (.lit (.int .i64 (lf : Nat)))) := by
    obtain ⟨es, clock, hb, r⟩ := hown
    exact ⟨es, clock, (o.block m hmlt hm).trans hb, r⟩
  refine ⟨rfl, T', ⟨ht, hi, ?_, ⟨_, ownsMap_fit hown' hbk, hbk⟩, ?_⟩, hp, fun b hb => (hsub b hb).imp id (fun q => Nat.le_trans o7.size q), ?_⟩
  · intro x hx
    rcases List.mem_cons.1 (hp.mem_iff.1 hx) with rfl | hx
    · exact hw
    · exact h.fits x hx
  · simp only [Option.toList_some, List.cons_append, List.nil_append, blocksO, List.nodup_cons, List.mem_cons, not_or]
    simp only [List.nodup_cons] at hn
    refine ⟨⟨nd.1.1, hn.1⟩, fun hb => ?_, hn.2⟩
    rcases hsub m hb with q | q
    · exact hm (by simp only [List.mem_cons] at q ⊢; rcases q with e | e <;> simp [e])
    · omega
  · refine (o7.mono (by simp)).trans (o.mono (fun b hb => Or.inl ?_))
    simp only [List.mem_cons] at hb ⊢
    rcases hb with e | e | e <;> simp [e]

theorem put_bad (t : Nat) (i : Int) (q : Bx) (w : World) (h : rightC q ≠ 0) : Calls Tryz.prog 42 #[.pointer (some ⟨t, 0, none⟩), .int .i64 i, .agg #[.int .i64 (q.x0), .int .i64 (q.x1), .int .i64 (q.x2), .int .i64 (q.x3), .int .i64 (q.x4), .int .i64 (q.x5)]] w fun e w' => e = .returned (errV (rightC q)) ∧ Only [] w w' := by
  have HE : errV (rightC q) = .iface 75 (.int .i64 (rightC q)) := by unfold errV; rw [if_neg h]
  have HE2 : Hid (errV (rightC q) = .iface 75 (.int .i64 (rightC q))) := HE
  rw [HE2.out]
  go_enter Tryz.func42, Tryz.ntmps42
  go_wp2_with fail
  refine (right_calls q _).mono ?_
  rw [HE]
  rintro e w1 ⟨rfl, k1⟩
  have o0 : Hid (Kept w w1 ∧ BoxAt w1 w.heap.size q) := ⟨((Kept.refl w).alloc _ _).trans k1, (Only.of_kept (D := []) k1).box (by simp) (MapKept.heap_alloc w _).1⟩
  clear k1 HE

  go_wp2_with fail
  go_ret
  exact ⟨rfl, .of_kept o0.out.1⟩

theorem errV0 {q : Bx} (h : rightC q = 0) : errV (rightC q) = .nilIface := by rw [h]; rfl
/-- No room for one more. -/
theorem put_full (t : Nat) (fat : Int) (D : List Nat) (M : List (Int × Bx)) (i : Int) (q : Bx) (w : World) (h : TreeIs w t fat D M) (hi : In64 i) (hn : i ∉ M.map Prod.fst) (hr : rightC q = 0) (hl : 60 ≤ M.length) :
    Calls Tryz.prog 42 #[.pointer (some ⟨t, 0, none⟩), .int .i64 i, .agg #[.int .i64 (q.x0), .int .i64 (q.x1), .int .i64 (q.x2), .int .i64 (q.x3), .int .i64 (q.x4), .int .i64 (q.x5)]] w fun e w' => e = .returned (.iface 75 (.int .i64 4)) ∧ Only [] w w' := by
  obtain ⟨T, lv, hw, hD, hM, hni⟩ := h.miss hn
  have HE := errV0 hr
  have H0 : Hid (Whole w t fat T lv ∧ i ∉ (leavesO T).map Lf.id ∧ (leavesO T).length = 60) := ⟨hw, hni, by have := hM.length_eq; have := h.small; simp only [boxesOf, List.length_map] at *; omega⟩
  clear hw hD hM hni hn h hl hr
  go_enter Tryz.func42, Tryz.ntmps42
  go_wp2_with fail
  refine (right_calls q _).mono ?_
  rw [HE]
  rintro e w1 ⟨rfl, k1⟩
  have o0 : Hid (Kept w w1 ∧ BoxAt w1 w.heap.size q) := ⟨((Kept.refl w).alloc _ _).trans k1, (Only.of_kept (D := []) k1).box (by simp) (MapKept.heap_alloc w _).1⟩
  clear k1 HE

  have hw1 : Whole w1 t fat T lv := H0.out.1.only (.of_kept (D := []) o0.out.1) (by simp)
  have c2 := hw1.tree.c2
  have hl := hw1.book.look_none hi H0.out.2.1
  have hlen := fun ty => hw1.book.len ty
  rw [H0.out.2.2] at hlen
  clear hw1
  go_wp2_with fail
  go_ret
  exact ⟨rfl, .of_kept o0.out.1⟩

/-- The end: what hangs there is the new book. -/
theorem put_done {w w6 w8 : World} {t : Nat} {fat : Int} {D : List Nat} {M : List (Int × Bx)} {i : Int} {q : Bx} {m : Nat} {T : Option Tr} {x : Lf} (hM : TreeIs w t fat D M) (hi : In64 i) (xi : x.id = i) (xq : x.box = q) (hlen : (leavesO T).length < 60)
    (hdel : (del M i).Perm (boxesOf (leavesO T))) (hD : ∀ b ∈ t :: m :: blocksO T, b ∈ D ∨ w.heap.size ≤ b) (hx : w.heap.size ≤ x.b) (o6 : Only D w w6) (h : PutPost w6 t fat m T x w8) :
    ∃ D', TreeIs w8 t fat D' (put M i q) ∧ (∀ b ∈ D', b ∈ D ∨ w.heap.size ≤ b) ∧ Only D w w8 := by
  obtain ⟨T', hw, hp, hsub, o⟩ := h
  have hpm : (put M i q).Perm (boxesOf T'.leaves) := by
    refine List.Perm.trans ?_ (hp.map _).symm
    unfold put
    simp only [List.map_cons, xi, xq]
    exact List.Perm.cons _ hdel
  have hin : ∀ b ∈ t :: m :: T'.blocks, b ∈ D ∨ w.heap.size ≤ b := by
    intro b hb
    simp only [List.mem_cons] at hb
    rcases hb with rfl | rfl | hb
    · exact hD _ (by simp)
    · exact hD _ (by simp)
    · rcases hsub b hb with q | q
      · rcases List.mem_cons.1 q with rfl | q
        · exact Or.inr hx
        · exact hD b (by simp [q])
      · exact Or.inr (Nat.le_trans o6.size q)
  refine ⟨t :: m :: T'.blocks, ⟨⟨some T', some m, hw, rfl, hpm⟩, hM.fat0, ?_, ?_, ?_⟩, hin, o6.then o (fun b hb => ?_)⟩
  · have := hdel.length_eq; simp only [put, List.length_cons, boxesOf, List.length_map] at *; omega
  · simp only [put, List.map_cons, List.nodup_cons]
    refine ⟨fun hb => ?_, hM.keys.sublist (List.filter_sublist.map _)⟩
    obtain ⟨p, hp, rfl⟩ := List.mem_map.1 hb
    have := (List.mem_filter.1 hp).2
    simp at this
  · intro p hp
    rcases List.mem_cons.1 hp with rfl | hp
    · exact hi
    · exact hM.ids p (List.mem_filter.1 hp).1
  · rcases List.mem_cons.1 hb with rfl | hb
    · exact Or.inr hx
    · exact hD b hb
theorem first_tail {w1 : World} {t : Nat} {fat : Int} {i : Int} {q : Bx} (h : Whole w1 t fat none none) : Tail i q t fat w1.heap.size none (.map []) ((w1.alloc (.map #[] 0)).setCell ⟨t, 2, none⟩ (.map (some w1.heap.size))) := by
  have hlt := h.tree.lt
  have ne : w1.heap.size ≠ t := by omega
  refine ⟨?_, trivial, ?_, fun b room => Book.empty.put (x := ⟨b, i, q, room⟩) (by simp), ?_, by simp [leavesO], by simp [leavesO]⟩
  · exact (((Only.refl [] w1).alloc _).tree (by simp) h.tree).putMap (some w1.heap.size)
  · exact ((World.ownsMap_made w1 Tryz.prog 3 nodeElem).mono (by omega)).setCell ne _
  · simp [blocksO, Ne.symm ne]
set_option maxRecDepth 100000 in
theorem put_first (t : Nat) (fat : Int) (D : List Nat) (M : List (Int × Bx)) (i : Int) (q : Bx) (w : World) (h : TreeIs w t fat D M) (hi : In64 i) (hr : rightC q = 0) (T : Option Tr) (hw : Whole w t fat T none) (hD : D = t :: ((none : Option Nat).toList ++ blocksO T)) (hM : M.Perm (boxesOf (leavesO T))) (hni : i ∉ (leavesO T).map Lf.id) :
    Calls Tryz.prog 42 #[.pointer (some ⟨t, 0, none⟩), .int .i64 i, .agg #[.int .i64 (q.x0), .int .i64 (q.x1), .int .i64 (q.x2), .int .i64 (q.x3), .int .i64 (q.x4), .int .i64 (q.x5)]] w fun e w' => e = .returned .nilIface ∧ ∃ D', TreeIs w' t fat D' (put M i q) ∧ (∀ b ∈ D', b ∈ D ∨ w.heap.size ≤ b) ∧ Only D w w' := by
  have HE := errV0 hr
  have HF : Hid (withinX q (fatX q fat) = true) := fat_within hr h.fat0.1 h.fat0.2
  obtain rfl : T = none := by
    cases T with
    | none => rfl
    | some T => have h1 := hw.book; have h2 := leaves_pos T; simp only [MapIs, leavesO] at h1; rw [h1] at h2; simp at h2
  have H0 : Hid (TreeIs w t fat D M ∧ Whole w t fat none none ∧ D = [t] ∧ M.Perm []) := ⟨h, hw, by simpa [blocksO] using hD, by simpa [leavesO, boxesOf] using hM⟩
  clear hw hD hM hni h hr
  go_enter Tryz.func42, Tryz.ntmps42
  go_wp2_with fail
  refine (right_calls q _).mono ?_
  rw [HE]
  rintro e w1 ⟨rfl, k1⟩
  have o0 : Hid (Kept w w1 ∧ BoxAt w1 w.heap.size q) := ⟨((Kept.refl w).alloc _ _).trans k1, (Only.of_kept (D := []) k1).box (by simp) (MapKept.heap_alloc w _).1⟩
  clear k1 HE

  have hw1 : Whole w1 t fat none none := H0.out.2.1.only (.of_kept (D := []) o0.out.1) (by simp)
  have c2 := hw1.tree.c2
  have f2 := hw1.tree.free
  have hl := hw1.book.look_none hi (by simp [leavesO])
  have hlen := fun ty => hw1.book.len ty
  simp only [leavesO, List.length_nil] at hlen
  have hmm := @run_makeMap Tryz.prog
  have heq := eqlBook none
  simp only [Option.isNone_none] at heq
  have c2' : ∀ o, (w1.alloc o).cell? ⟨t, 2, none⟩ = some (.map none) := later c2
  have f2' : ∀ o, (w1.alloc o).frozen? ⟨t, 2, none⟩ = false := fun o => by rw [World.frozen?_alloc_old w1 o _ (Nat.ne_of_lt hw1.tree.lt)]; exact f2 2
  have HW1 : Hid (Whole w1 t fat none none) := hw1
  clear hw1
  go_wp2_with fail
  have HT : Hid (Tail i q t fat w1.heap.size none (.map []) ((w1.alloc (.map #[] 0)).setCell ⟨t, 2, none⟩ (.map (some w1.heap.size)))) := first_tail HW1.out
  have oT : Only [t] w1 ((w1.alloc (.map #[] 0)).setCell ⟨t, 2, none⟩ (.map (some w1.heap.size))) := ((Only.refl [t] w1).alloc _).setCell (by simp) _
  have HB : Hid (BoxAt ((w1.alloc (.map #[] 0)).setCell ⟨t, 2, none⟩ (.map (some w1.heap.size))) w.heap.size q) := oT.box (by have := H0.out.2.1.tree.lt; simp; omega) o0.out.2
  have HO : Hid (Only D w ((w1.alloc (.map #[] 0)).setCell ⟨t, 2, none⟩ (.map (some w1.heap.size))) ∧ w.heap.size ≤ w1.heap.size) := ⟨(Only.of_kept o0.out.1).trans (oT.mono (by rw [H0.out.2.2.1]; simp)), o0.out.1.below.size⟩
  have HL : Hid (∀ b ∈ t :: w1.heap.size :: blocksO none, b < ((w1.alloc (.map #[] 0)).setCell ⟨t, 2, none⟩ (.map (some w1.heap.size))).heap.size) := fun b hb => by
    have h1 := HW1.out.tree.lt
    simp only [blocksO, List.mem_cons, List.not_mem_nil, or_false] at hb
    simp [World.setCell]
    rcases hb with rfl | rfl <;> omega
  clear c2 f2 hl hlen hmm c2' f2' oT heq HW1
  generalize ((w1.alloc (.map #[] 0)).setCell ⟨t, 2, none⟩ (.map (some w1.heap.size))) = wT at HT HB HO HL ⊢
  generalize w1.heap.size = m at HT HO HL ⊢
  generalize hk : w.heap.size = k at HB ⊢
  clear hk o0 w1
  generalize hMD : (.map [] : DataW Unit) = MD at HT
  generalize hTT : (none : Option Tr) = T at HT HL
  have HTT : Hid (none = T) := hTT
  clear hMD hTT

  refine wp_region_held_drew (S := (fun w' => Kept wT w' ∧ w'.cell? ⟨k, 0, none⟩ = some (.int .i64 q.x0) ∧ w'.cell? ⟨k, 1, none⟩ = some (.int .i64 q.x1) ∧ w'.cell? ⟨k, 2, none⟩ = some (.int .i64 q.x2) ∧ w'.cell? ⟨k, 3, none⟩ = some (.int .i64 q.x3) ∧ w'.cell? ⟨k, 4, none⟩ = some (.int .i64 q.x4) ∧ w'.cell? ⟨k, 5, none⟩ = some (.int .i64 q.x5) ∧ w'.cell? ⟨t, 0, none⟩ = some (.int .i64 fat))) (by kernel_rfl) ?_ (fun hHeld1 => ?_)
  · (try dsimp only); exact FK.of (Kept.refl _).drew HB.out HT.out.tree
  refine wpAnyH_take (i := 0) (v := ?_) rfl (by kernel_rfl) (by kernel_rfl) (by kernel_rfl) (fun _ _ _ h => h) (Or.inl ⟨by kernel_rfl, ?_⟩) (by assumption) ?_
  rotate_left
  · intro w'' hSw; (try dsimp only at hSw); simp only [zqa, zqb, zqc]; (go_simp <;> with_reducible rfl)
  try simp only [Act.put, zqd, zqe, zqf, zqa, zqb, zqc]
  refine wpAnyH_take (i := 1) (v := ?_) rfl (by kernel_rfl) (by kernel_rfl) (by kernel_rfl) (fun _ _ _ h => h) (Or.inl ⟨by kernel_rfl, ?_⟩) (by assumption) ?_
  rotate_left
  · intro w'' hSw; (try dsimp only at hSw); simp only [zqa, zqb, zqc]; (go_simp <;> with_reducible rfl)
  try simp only [Act.put, zqd, zqe, zqf, zqa, zqb, zqc]
  refine wpAnyH_take (i := 2) (v := ?_) rfl (by kernel_rfl) (by kernel_rfl) (by kernel_rfl) (fun _ _ _ h => h) (Or.inl ⟨by kernel_rfl, ?_⟩) (by assumption) ?_
  rotate_left
  · intro w'' hSw; (try dsimp only at hSw); simp only [zqa, zqb, zqc]; (go_simp <;> with_reducible rfl)
  try simp only [Act.put, zqd, zqe, zqf, zqa, zqb, zqc]
  refine wpAnyH_take (i := 3) (v := ?_) rfl (by kernel_rfl) (by kernel_rfl) (by kernel_rfl) (fun _ _ _ h => h) (Or.inl ⟨by kernel_rfl, ?_⟩) (by assumption) ?_
  rotate_left
  · intro w'' hSw; (try dsimp only at hSw); simp only [zqa, zqb, zqc]; (go_simp <;> with_reducible rfl)
  try simp only [Act.put, zqd, zqe, zqf, zqa, zqb, zqc]
  refine wpAnyH_take (i := 4) (v := ?_) rfl (by kernel_rfl) (by kernel_rfl) (by kernel_rfl) (fun _ _ _ h => h) (Or.inl ⟨by kernel_rfl, ?_⟩) (by assumption) ?_
  rotate_left
  · intro w'' hSw; (try dsimp only at hSw); simp only [zqa, zqb, zqc]; (go_simp <;> with_reducible rfl)
  try simp only [Act.put, zqd, zqe, zqf, zqa, zqb, zqc]
  refine wpAnyH_take (i := 5) (v := ?_) rfl (by kernel_rfl) (by kernel_rfl) (by kernel_rfl) (fun _ _ _ h => h) (Or.inl ⟨by kernel_rfl, ?_⟩) (by assumption) ?_
  rotate_left
  · intro w'' hSw; (try dsimp only at hSw); simp only [zqa, zqb, zqc]; (go_simp <;> with_reducible rfl)
  try simp only [Act.put, zqd, zqe, zqf, zqa, zqb, zqc]
  refine wpAnyH_take (i := 6) (v := ?_) rfl (by kernel_rfl) (by kernel_rfl) (by kernel_rfl) (fun _ _ _ h => h) (Or.inl ⟨by kernel_rfl, ?_⟩) (by assumption) ?_
  rotate_left
  · intro w'' hSw; (try dsimp only at hSw); simp only [zqa, zqb, zqc]; (go_simp <;> with_reducible rfl)
  try simp only [Act.put, zqd, zqe, zqf, zqa, zqb, zqc]
  refine wpAnyH_ready (rs := [7]) (by kernel_rfl) (by simp) ?_
  refine AllReadyH.cons rfl (fun K hK => ?_) AllReadyH.nil
  first | (with_reducible refine iteYes ?hcx ?htx; case hcx => kernel_rfl) | rw [if_pos (by rfl)]
  simp only [zqa, zqb, zqc]
  go_simp
  (go_at_call 74; refine (gfat_calls _ _ _ _ _ _ _ _).mono ?_; rintro e w5 ⟨rfl, k5⟩)
  try go_wp2_with fail
  refine hK.out _ _ ?_ (fun hHeld2 => ?_)
  · (try dsimp only); exact FK.of (hHeld1.1.trans k5) HB.out HT.out.tree
  clear hK K hHeld1
  try simp only [Act.put, zqd, zqe, zqf, zqa, zqb, zqc]
  refine wpAnyH_take (i := 8) (v := ?_) rfl (by kernel_rfl) (by kernel_rfl) (by kernel_rfl) (fun _ _ _ h => h) (Or.inl ⟨by kernel_rfl, ?_⟩) (by assumption) ?_
  rotate_left
  · intro w'' hSw; (try dsimp only at hSw); simp only [zqa, zqb, zqc]; (go_simp <;> with_reducible rfl)
  try simp only [Act.put, zqd, zqe, zqf, zqa, zqb, zqc]
  refine wpAnyH_ready (rs := [9]) (by kernel_rfl) (by simp) ?_
  refine AllReadyH.cons rfl (fun K hK => ?_) AllReadyH.nil
  first | (with_reducible refine iteYes ?hcx ?htx; case hcx => kernel_rfl) | rw [if_pos (by rfl)]
  simp only [zqa, zqb, zqc]
  go_simp
  refine hK.out _ _ ?_ (fun hHeld3 => ?_)
  · (try dsimp only); exact FK.of (hHeld2.1.alloc _ _) HB.out HT.out.tree
  clear hK K
  try simp only [Act.put, zqd, zqe, zqf, zqa, zqb, zqc]
  refine wpAnyH_take (i := 10) (v := ?_) rfl (by kernel_rfl) (by kernel_rfl) (by kernel_rfl) (fun _ _ _ h => h) (Or.inl ⟨by kernel_rfl, ?_⟩) (by assumption) ?_
  rotate_left
  · intro w'' hSw; (try dsimp only at hSw); simp only [zqa, zqb, zqc]; (go_simp <;> with_reducible rfl)
  try simp only [Act.put, zqd, zqe, zqf, zqa, zqb, zqc]
  refine wpAnyH_done (by kernel_rfl) ?_ _
  have H5 : Hid (Kept wT w5) := hHeld2.1
  clear hHeld2 hHeld3
  generalize hw6 : World.alloc w5 _ = w6
  have n6 : NodeAt w6 w5.heap.size ((Tr.leaf w5.heap.size i q (fatX q fat)).nd none) := by rw [← hw6]; exact (MapKept.heap_alloc w5 _).1
  have o6 : Only [] wT w6 := by rw [← hw6]; exact ((Only.refl [] wT).trans (.of_kept H5.out)).alloc _
  have H6 : Hid (Tail i q t fat m T MD w6 ∧ Only [] wT w6 ∧ NodeAt w6 w5.heap.size ((Tr.leaf w5.heap.size i q (fatX q fat)).nd none) ∧ wT.heap.size ≤ w5.heap.size) := ⟨HT.out.only o6 (by simp), o6, n6, H5.out.below.size⟩
  clear hw6 n6 o6 H5
  generalize w5.heap.size = lf at H6 ⊢
  have hown := H6.out.1.own
  have d2 := H6.out.1.tree.c2
  have hln := H6.out.1.len
  go_wp2_with (first | (at_mapUpdate; refine wpList_mapUpdate_in _ rfl _ _ _ 92 rfl 3 91 intKey Tryz.underlying92 _ m _ MD rfl hown (by unfold maxLen; omega) _ _ _ rfl rfl (keyIs hi) (.lit (.int .i64 (lf : Int))) [] rfl ?_; intro w7 hown7 hturn7; have H7 : Hid (_ ∧ _) := ⟨hown7, hturn7⟩; clear hown7 hturn7 hown d2))
  obtain ⟨hown7, hturn7⟩ := H7.out
  have o7 : Only [m] w6 w7 := (Only.refl [m] w6).grown hturn7.grown (fun k hk => by injection hk with hk; exact Or.inl (by simp [hk]))
  refine (hang_tail (lf := lf) H6.out.1 H6.out.2.2.1 hown7 o7 (fun hb => by have h1 := H6.out.2.2.2; have h2 := HL.out _ hb; omega) (HF.out)).mono ?_
  rintro e w8 ⟨rfl, q8⟩
  have H8 : Hid _ := q8
  clear q8 hown7 hturn7 H7 o7
  go_wp2_with fail
  go_ret

  refine ⟨rfl, put_done H0.out.1 hi rfl rfl H6.out.1.len ?_ ?_ ?_ (HO.out.1.trans (H6.out.2.1.mono (by simp))) H8.out⟩
  · rw [← HTT.out]; simp only [leavesO, boxesOf, List.map_nil]; have := List.perm_nil.1 H0.out.2.2.2; rw [this]; exact List.Perm.refl _
  · intro b hb
    rw [← HTT.out] at hb
    simp only [blocksO, List.mem_cons, List.not_mem_nil, or_false] at hb
    rcases hb with rfl | rfl
    · rw [H0.out.2.2.1]; simp
    · exact Or.inr HO.out.2
  · exact Nat.le_trans HO.out.1.size H6.out.2.2.2
end Go.Proofs.YtbfkloclmlnahabGreat

namespace Go.Proofs.YtbfkloclmlnahabGreat
open Go.ChangeShapes Go.WideShapes Go.ChangeAt Go.RowKit
open Go.Maps (Keyed)
set_option linter.unusedVariables false
set_option linter.unusedSimpArgs false

/-- A leaf's box is another one. -/
def Tr.setBox (b : Nat) (q : Bx) : Tr → Tr
  | ⟨b',.inl (id,box,room)⟩ => if b' = b then .leaf b' id q room else .leaf b' id box room
  | ⟨b',.inr (l,r)⟩ => .node b' (l.setBox b q) (r.setBox b q)
theorem setBox_high (b : Nat) (q : Bx) : ∀ T : Tr, (T.setBox b q).high = T.high
  | ⟨_,.inl (_,_,_)⟩ => by unfold Tr.setBox; split <;> rfl
  | ⟨_,.inr (l,r)⟩ => by simp only [Tr.setBox, Tr.high, setBox_high b q l, setBox_high b q r]
theorem setBox_room (b : Nat) (q : Bx) : ∀ T : Tr, (T.setBox b q).room = T.room
  | ⟨_,.inl (_,_,_)⟩ => by unfold Tr.setBox; split <;> rfl
  | ⟨_,.inr (l,r)⟩ => by simp only [Tr.setBox, Tr.room, setBox_room b q l, setBox_room b q r]
theorem setBox_root (b : Nat) (q : Bx) : ∀ T : Tr, (T.setBox b q).root = T.root
  | ⟨_,.inl (_,_,_)⟩ => by unfold Tr.setBox; split <;> rfl
  | ⟨_,.inr (l,r)⟩ => rfl
theorem setBox_blocks (b : Nat) (q : Bx) : ∀ T : Tr, (T.setBox b q).blocks = T.blocks
  | ⟨_,.inl (_,_,_)⟩ => by unfold Tr.setBox; split <;> rfl
  | ⟨_,.inr (l,r)⟩ => by simp only [Tr.setBox, Tr.blocks, setBox_blocks b q l, setBox_blocks b q r]
theorem setBox_bal (b : Nat) (q : Bx) : ∀ T : Tr, Bal T → Bal (T.setBox b q)
  | ⟨_,.inl (_,_,_)⟩, _ => by unfold Tr.setBox; split <;> trivial
  | ⟨_,.inr (l,r)⟩, h => by simp only [Tr.setBox, Bal, setBox_high]; exact ⟨setBox_bal b q l h.1, setBox_bal b q r h.2.1, h.2.2⟩
theorem setBox_id (b : Nat) (q : Bx) : ∀ T : Tr, b ∉ T.blocks → T.setBox b q = T
  | ⟨_,.inl (_,_,_)⟩, h => by unfold Tr.setBox; rw [if_neg (fun e => h (by simp [Tr.blocks, e]))]
  | ⟨_,.inr (l,r)⟩, h => by
    simp only [Tr.blocks, List.mem_cons, List.mem_append, not_or] at h
    simp only [Tr.setBox, setBox_id b q l h.2.1, setBox_id b q r h.2.2]
theorem setBox_leaves (b : Nat) (q : Bx) : ∀ T : Tr, (T.setBox b q).leaves = T.leaves.map (fun y => if y.b = b then { y with box := q } else y)
  | ⟨_,.inl (_,_,_)⟩ => by unfold Tr.setBox; split <;> simp [Tr.leaves, *]
  | ⟨_,.inr (l,r)⟩ => by simp only [Tr.setBox, Tr.leaves, setBox_leaves b q l, setBox_leaves b q r, List.map_append]
theorem setBox_nd (b : Nat) (q : Bx) (b' : Nat) (l r : Tr) (u : Option Nat) : ((Tr.node b' l r).setBox b q).nd u = (Tr.node b' l r).nd u := by
  simp only [Tr.setBox, nd_node, setBox_room, setBox_high, setBox_root]
theorem leaf_blocks : ∀ T : Tr, (T.leaves.map Lf.b).Sublist T.blocks
  | ⟨_,.inl (_,_,_)⟩ => by simp [Tr.leaves, Tr.blocks]
  | ⟨b,.inr (l,r)⟩ => by simp only [Tr.leaves, Tr.blocks, List.map_append]; exact ((leaf_blocks l).append (leaf_blocks r)).cons b
theorem setBox_in {w w' : World} {x : Lf} {q : Bx} (o : Only [x.b] w w') (hx : ∀ u, NodeAt w x.b (x.tree.nd u) → NodeAt w' x.b ((Tr.leaf x.b x.id q x.room).nd u)) : ∀ (T : Tr) (u : Option Nat), T.blocks.Nodup → x ∈ T.leaves → In w u T → In w' u (T.setBox x.b q)
  | ⟨b,.inl (id,box,room)⟩, u, _, hm, h => by
    simp only [Tr.leaves, List.mem_singleton] at hm
    subst hm
    simp only [Tr.setBox, if_true]
    exact hx u h
  | ⟨b,.inr (l,r)⟩, u, nd, hm, h => by
    simp only [Tr.blocks, List.nodup_cons, List.mem_append, not_or, List.nodup_append] at nd
    simp only [Tr.leaves, List.mem_append] at hm
    have key : b ≠ x.b := fun e => by
      rcases hm with q | q
      · exact nd.1.1 (e ▸ leaf_block q)
      · exact nd.1.2 (e ▸ leaf_block q)
    have hn : NodeAt w' b (((Tr.node b l r).setBox x.b q).nd u) := by rw [setBox_nd]; exact o.node (by simp [key]) h.1
    rcases hm with hm | hm
    · have hr : x.b ∉ r.blocks := fun hb => nd.2.2.2 _ (leaf_block hm) _ hb rfl
      refine ⟨hn, setBox_in o hx l (some b) nd.2.1 hm h.2.1, ?_⟩
      rw [setBox_id x.b q r hr]
      exact h.2.2.only o (fun y hy => by simp; exact fun e => hr (e ▸ hy))
    · have hl : x.b ∉ l.blocks := fun hb => nd.2.2.2 _ hb _ (leaf_block hm) rfl
      refine ⟨hn, ?_, setBox_in o hx r (some b) nd.2.2.1 hm h.2.2⟩
      rw [setBox_id x.b q l hl]
      exact h.2.1.only o (fun y hy => by simp; exact fun e => hl (e ▸ hy))
theorem setBox_perm {T : Tr} {x : Lf} {L : List Lf} (nd : T.blocks.Nodup) (p : T.leaves.Perm (x :: L)) (q : Bx) : (T.setBox x.b q).leaves.Perm ({ x with box := q } :: L) := by
  rw [setBox_leaves]
  refine (p.map _).trans ?_
  simp only [List.map_cons, if_true]
  refine List.Perm.cons _ (List.Perm.of_eq ?_)
  have hn : ((x :: L).map Lf.b).Nodup := (p.map _).nodup (nd.sublist (leaf_blocks T))
  simp only [List.map_cons, List.nodup_cons] at hn
  conv => rhs; rw [← List.map_id L]
  refine List.map_congr_left (fun y hy => ?_)
  rw [if_neg (fun e => hn.1 (by rw [← e]; exact List.mem_map_of_mem hy))]; rfl

/-- The box alone has been written anew. -/
theorem put_stay_done {w w1 w2 : World} {t : Nat} {fat : Int} {D : List Nat} {M : List (Int × Bx)} {q : Bx} {m : Nat} {T : Tr} {x : Lf} (hT : TreeIs w t fat D M) (hw : Whole w1 t fat (some T) (some m)) (hD : D = t :: m :: T.blocks) (hM : M.Perm (boxesOf T.leaves)) (hx : x ∈ T.leaves) (hq : withinX q x.room = true)
    (o1 : Only [] w w1) (o2 : Only [x.b] w1 w2) (hn : ∀ n, NodeAt w1 x.b n → NodeAt w2 x.b { n with box := q }) : TreeIs w2 t fat D (put M x.id q) ∧ Only D w w2 := by
  have nd := hw.nodup
  simp only [Option.toList_some, List.cons_append, List.nil_append, blocksO, List.nodup_cons, List.mem_cons, not_or] at nd
  have hb := leaf_block hx
  obtain ⟨L, pL⟩ := perm_find hx
  have p2 := setBox_perm nd.2.2 pL q
  obtain ⟨MD, hown, hbk⟩ := hw.book
  have hbk2 : Book MD (T.setBox x.b q).leaves := ((hbk.perm pL).box (y := { x with box := q }) rfl rfl).perm p2.symm
  have hmlt := hown.lt
  have hown2 : w2.ownsMap Tryz.prog 3 nodeElem m T.leaves.length MD := by
    obtain ⟨es, clock, hb', r⟩ := hown
    exact ⟨es, clock, (o2.block m hmlt (by simp; exact fun e => nd.2.1 (e ▸ hb))).trans hb', r⟩
  have hpm : (put M x.id q).Perm (boxesOf (T.setBox x.b q).leaves) := by
    refine List.Perm.trans ?_ (p2.map _).symm
    refine List.Perm.cons _ ?_
    have hp2 : M.Perm ((x.id, x.box) :: boxesOf L) := hM.trans (pL.map _)
    have hk := (hp2.map Prod.fst).nodup hT.keys
    simp only [List.map_cons, List.nodup_cons] at hk
    have := del_perm hp2 x.id
    rwa [del_head hk.1] at this
  refine ⟨⟨⟨some (T.setBox x.b q), some m, ⟨?_, ⟨?_, setBox_bal _ _ _ hw.inn.2⟩, ?_, ⟨MD, ownsMap_fit hown2 hbk2, hbk2⟩, ?_⟩, ?_, hpm⟩, hT.fat0, ?_, ?_, ?_⟩, (o1.mono (by simp)).trans (o2.mono (fun b hb' => Or.inl ?_))⟩
  · have := o2.tree (by simp; exact fun e => nd.1.2 (e ▸ hb)) hw.tree
    simpa [rootO, setBox_root] using this
  · exact setBox_in o2 (fun u hu => hn _ hu) T none nd.2.2 hx hw.inn.1
  · intro y hy
    rcases List.mem_cons.1 (p2.mem_iff.1 hy) with rfl | hy
    · exact hq
    · exact hw.fits y (pL.mem_iff.2 (List.mem_cons_of_mem _ hy))
  · simp only [Option.toList_some, List.cons_append, List.nil_append, blocksO, setBox_blocks, List.nodup_cons, List.mem_cons, not_or]; exact nd
  · simp only [Option.toList_some, List.cons_append, List.nil_append, blocksO, setBox_blocks]; exact hD
  · have := hpm.length_eq; have h2 := p2.length_eq; have h3 := pL.length_eq; have h4 := hM.length_eq; have := hT.small; simp only [boxesOf, List.length_map, List.length_cons] at *; omega
  · simp only [put, List.map_cons, List.nodup_cons]
    refine ⟨fun hb' => ?_, hT.keys.sublist (List.filter_sublist.map _)⟩
    obtain ⟨p, hp, e⟩ := List.mem_map.1 hb'
    have := (List.mem_filter.1 hp).2
    simp [e] at this
  · intro p hp
    rcases List.mem_cons.1 hp with rfl | hp
    · exact hT.ids (x.id, x.box) (hM.mem_iff.2 (List.mem_map_of_mem (f := fun x : Lf => (x.id, x.box)) hx))
    · exact hT.ids p (List.mem_filter.1 hp).1
  · simp only [List.mem_singleton] at hb'
    rw [hb', hD]; simp [hb]

set_option maxRecDepth 100000 in
theorem put_next (t : Nat) (fat : Int) (D : List Nat) (M : List (Int × Bx)) (i : Int) (q : Bx) (w : World) (h : TreeIs w t fat D M) (hi : In64 i) (hr : rightC q = 0) (T : Option Tr) (m : Nat) (hw : Whole w t fat T (some m)) (hD : D = t :: ((some m).toList ++ blocksO T)) (hM : M.Perm (boxesOf (leavesO T))) (hni : i ∉ (leavesO T).map Lf.id) (hl : M.length < 60) (hn : i ∉ M.map Prod.fst) :
    Calls Tryz.prog 42 #[.pointer (some ⟨t, 0, none⟩), .int .i64 i, .agg #[.int .i64 (q.x0), .int .i64 (q.x1), .int .i64 (q.x2), .int .i64 (q.x3), .int .i64 (q.x4), .int .i64 (q.x5)]] w fun e w' => e = .returned .nilIface ∧ ∃ D', TreeIs w' t fat D' (put M i q) ∧ (∀ b ∈ D', b ∈ D ∨ w.heap.size ≤ b) ∧ Only D w w' := by
  have HE := errV0 hr
  have HF : Hid (withinX q (fatX q fat) = true) := fat_within hr h.fat0.1 h.fat0.2
  have H0 : Hid (TreeIs w t fat D M ∧ Whole w t fat T (some m) ∧ D = t :: m :: blocksO T ∧ M.Perm (boxesOf (leavesO T)) ∧ i ∉ (leavesO T).map Lf.id ∧ i ∉ M.map Prod.fst ∧ (leavesO T).length < 60) := ⟨h, hw, hD, hM, hni, hn, by have := hM.length_eq; simp only [boxesOf, List.length_map] at this; omega⟩
  clear hw hD hM hni h hr hl hn
  go_enter Tryz.func42, Tryz.ntmps42
  go_wp2_with fail
  refine (right_calls q _).mono ?_
  rw [HE]
  rintro e w1 ⟨rfl, k1⟩
  have o0 : Hid (Kept w w1 ∧ BoxAt w1 w.heap.size q) := ⟨((Kept.refl w).alloc _ _).trans k1, (Only.of_kept (D := []) k1).box (by simp) (MapKept.heap_alloc w _).1⟩
  clear k1 HE

  have hw1 : Whole w1 t fat T (some m) := H0.out.2.1.only (.of_kept (D := []) o0.out.1) (by simp)
  have c2 := hw1.tree.c2
  have hl := hw1.book.look_none hi H0.out.2.2.2.2.1
  have hlen := fun ty => hw1.book.len ty
  have t1 := H0.out.2.2.2.2.2.2
  generalize (leavesO T).length = n at hlen t1
  have t2 : decide ((60 : Int) ≤ (n : Int)) = false := by simp; omega
  clear t1
  have heq := eqlBook (some m)
  simp only [Option.isNone_some] at heq
  have HT : Hid (∃ MD, Tail i q t fat m T MD w1) := by
    obtain ⟨MD, hown, hbk⟩ := hw1.book
    refine ⟨MD, ⟨hw1.tree, hw1.inn, hown.mono (by have := H0.out.2.2.2.2.2.2; omega), fun b room => hbk.put (x := ⟨b, i, q, room⟩) H0.out.2.2.2.2.1, by simpa using hw1.nodup, hw1.fits, H0.out.2.2.2.2.2.2⟩⟩
  have HL : Hid (∀ b ∈ t :: m :: blocksO T, b < w1.heap.size) := fun b hb => by
    have h1 := o0.out.1.below.size
    have h2 := H0.out.1.lt b (by rw [H0.out.2.2.1]; exact hb)
    omega
  clear hw1
  go_wp2_with fail
  obtain ⟨MD, ht⟩ := HT.out
  clear HT
  have HT : Hid (Tail i q t fat m T MD w1) := ht
  have HB : Hid (BoxAt w1 w.heap.size q) := o0.out.2
  have HO : Hid (Only D w w1) := .of_kept o0.out.1
  clear ht c2 hl hlen t2 heq o0
  generalize hk : w.heap.size = k at HB ⊢
  clear hk
  generalize hwT : w1 = wT at HT HB HO HL ⊢
  clear hwT w1

  refine wp_region_held_drew (S := (fun w' => Kept wT w' ∧ w'.cell? ⟨k, 0, none⟩ = some (.int .i64 q.x0) ∧ w'.cell? ⟨k, 1, none⟩ = some (.int .i64 q.x1) ∧ w'.cell? ⟨k, 2, none⟩ = some (.int .i64 q.x2) ∧ w'.cell? ⟨k, 3, none⟩ = some (.int .i64 q.x3) ∧ w'.cell? ⟨k, 4, none⟩ = some (.int .i64 q.x4) ∧ w'.cell? ⟨k, 5, none⟩ = some (.int .i64 q.x5) ∧ w'.cell? ⟨t, 0, none⟩ = some (.int .i64 fat))) (by kernel_rfl) ?_ (fun hHeld1 => ?_)
  · (try dsimp only); exact FK.of (Kept.refl _).drew HB.out HT.out.tree
  refine wpAnyH_take (i := 0) (v := ?_) rfl (by kernel_rfl) (by kernel_rfl) (by kernel_rfl) (fun _ _ _ h => h) (Or.inl ⟨by kernel_rfl, ?_⟩) (by assumption) ?_
  rotate_left
  · intro w'' hSw; (try dsimp only at hSw); simp only [zqa, zqb, zqc]; (go_simp <;> with_reducible rfl)
  try simp only [Act.put, zqd, zqe, zqf, zqa, zqb, zqc]
  refine wpAnyH_take (i := 1) (v := ?_) rfl (by kernel_rfl) (by kernel_rfl) (by kernel_rfl) (fun _ _ _ h => h) (Or.inl ⟨by kernel_rfl, ?_⟩) (by assumption) ?_
  rotate_left
  · intro w'' hSw; (try dsimp only at hSw); simp only [zqa, zqb, zqc]; (go_simp <;> with_reducible rfl)
  try simp only [Act.put, zqd, zqe, zqf, zqa, zqb, zqc]
  refine wpAnyH_take (i := 2) (v := ?_) rfl (by kernel_rfl) (by kernel_rfl) (by kernel_rfl) (fun _ _ _ h => h) (Or.inl ⟨by kernel_rfl, ?_⟩) (by assumption) ?_
  rotate_left
  · intro w'' hSw; (try dsimp only at hSw); simp only [zqa, zqb, zqc]; (go_simp <;> with_reducible rfl)
  try simp only [Act.put, zqd, zqe, zqf, zqa, zqb, zqc]
  refine wpAnyH_take (i := 3) (v := ?_) rfl (by kernel_rfl) (by kernel_rfl) (by kernel_rfl) (fun _ _ _ h => h) (Or.inl ⟨by kernel_rfl, ?_⟩) (by assumption) ?_
  rotate_left
  · intro w'' hSw; (try dsimp only at hSw); simp only [zqa, zqb, zqc]; (go_simp <;> with_reducible rfl)
  try simp only [Act.put, zqd, zqe, zqf, zqa, zqb, zqc]
  refine wpAnyH_take (i := 4) (v := ?_) rfl (by kernel_rfl) (by kernel_rfl) (by kernel_rfl) (fun _ _ _ h => h) (Or.inl ⟨by kernel_rfl, ?_⟩) (by assumption) ?_
  rotate_left
  · intro w'' hSw; (try dsimp only at hSw); simp only [zqa, zqb, zqc]; (go_simp <;> with_reducible rfl)
  try simp only [Act.put, zqd, zqe, zqf, zqa, zqb, zqc]
  refine wpAnyH_take (i := 5) (v := ?_) rfl (by kernel_rfl) (by kernel_rfl) (by kernel_rfl) (fun _ _ _ h => h) (Or.inl ⟨by kernel_rfl, ?_⟩) (by assumption) ?_
  rotate_left
  · intro w'' hSw; (try dsimp only at hSw); simp only [zqa, zqb, zqc]; (go_simp <;> with_reducible rfl)
  try simp only [Act.put, zqd, zqe, zqf, zqa, zqb, zqc]
  refine wpAnyH_take (i := 6) (v := ?_) rfl (by kernel_rfl) (by kernel_rfl) (by kernel_rfl) (fun _ _ _ h => h) (Or.inl ⟨by kernel_rfl, ?_⟩) (by assumption) ?_
  rotate_left
  · intro w'' hSw; (try dsimp only at hSw); simp only [zqa, zqb, zqc]; (go_simp <;> with_reducible rfl)
  try simp only [Act.put, zqd, zqe, zqf, zqa, zqb, zqc]
  refine wpAnyH_ready (rs := [7]) (by kernel_rfl) (by simp) ?_
  refine AllReadyH.cons rfl (fun K hK => ?_) AllReadyH.nil
  first | (with_reducible refine iteYes ?hcx ?htx; case hcx => kernel_rfl) | rw [if_pos (by rfl)]
  simp only [zqa, zqb, zqc]
  go_simp
  (go_at_call 74; refine (gfat_calls _ _ _ _ _ _ _ _).mono ?_; rintro e w5 ⟨rfl, k5⟩)
  try go_wp2_with fail
  refine hK.out _ _ ?_ (fun hHeld2 => ?_)
  · (try dsimp only); exact FK.of (hHeld1.1.trans k5) HB.out HT.out.tree
  clear hK K hHeld1
  try simp only [Act.put, zqd, zqe, zqf, zqa, zqb, zqc]
  refine wpAnyH_take (i := 8) (v := ?_) rfl (by kernel_rfl) (by kernel_rfl) (by kernel_rfl) (fun _ _ _ h => h) (Or.inl ⟨by kernel_rfl, ?_⟩) (by assumption) ?_
  rotate_left
  · intro w'' hSw; (try dsimp only at hSw); simp only [zqa, zqb, zqc]; (go_simp <;> with_reducible rfl)
  try simp only [Act.put, zqd, zqe, zqf, zqa, zqb, zqc]
  refine wpAnyH_ready (rs := [9]) (by kernel_rfl) (by simp) ?_
  refine AllReadyH.cons rfl (fun K hK => ?_) AllReadyH.nil
  first | (with_reducible refine iteYes ?hcx ?htx; case hcx => kernel_rfl) | rw [if_pos (by rfl)]
  simp only [zqa, zqb, zqc]
  go_simp
  refine hK.out _ _ ?_ (fun hHeld3 => ?_)
  · (try dsimp only); exact FK.of (hHeld2.1.alloc _ _) HB.out HT.out.tree
  clear hK K
  try simp only [Act.put, zqd, zqe, zqf, zqa, zqb, zqc]
  refine wpAnyH_take (i := 10) (v := ?_) rfl (by kernel_rfl) (by kernel_rfl) (by kernel_rfl) (fun _ _ _ h => h) (Or.inl ⟨by kernel_rfl, ?_⟩) (by assumption) ?_
  rotate_left
  · intro w'' hSw; (try dsimp only at hSw); simp only [zqa, zqb, zqc]; (go_simp <;> with_reducible rfl)
  try simp only [Act.put, zqd, zqe, zqf, zqa, zqb, zqc]
  refine wpAnyH_done (by kernel_rfl) ?_ _
  have H5 : Hid (Kept wT w5) := hHeld2.1
  clear hHeld2 hHeld3
  generalize hw6 : World.alloc w5 _ = w6
  have n6 : NodeAt w6 w5.heap.size ((Tr.leaf w5.heap.size i q (fatX q fat)).nd none) := by rw [← hw6]; exact (MapKept.heap_alloc w5 _).1
  have o6 : Only [] wT w6 := by rw [← hw6]; exact ((Only.refl [] wT).trans (.of_kept H5.out)).alloc _
  have H6 : Hid (Tail i q t fat m T MD w6 ∧ Only [] wT w6 ∧ NodeAt w6 w5.heap.size ((Tr.leaf w5.heap.size i q (fatX q fat)).nd none) ∧ wT.heap.size ≤ w5.heap.size) := ⟨HT.out.only o6 (by simp), o6, n6, H5.out.below.size⟩
  clear hw6 n6 o6 H5
  generalize w5.heap.size = lf at H6 ⊢
  have hown := H6.out.1.own
  have d2 := H6.out.1.tree.c2
  have hln := H6.out.1.len
  go_wp2_with (first | (at_mapUpdate; refine wpList_mapUpdate_in _ rfl _ _ _ 92 rfl 3 91 intKey Tryz.underlying92 _ m _ MD rfl hown (by unfold maxLen; omega) _ _ _ rfl rfl (keyIs hi) (.lit (.int .i64 (lf : Int))) [] rfl ?_; intro w7 hown7 hturn7; have H7 : Hid (_ ∧ _) := ⟨hown7, hturn7⟩; clear hown7 hturn7 hown d2))
  obtain ⟨hown7, hturn7⟩ := H7.out
  have o7 : Only [m] w6 w7 := (Only.refl [m] w6).grown hturn7.grown (fun k hk => by injection hk with hk; exact Or.inl (by simp [hk]))
  refine (hang_tail (lf := lf) H6.out.1 H6.out.2.2.1 hown7 o7 (fun hb => by have h1 := H6.out.2.2.2; have h2 := HL.out _ hb; omega) (HF.out)).mono ?_
  rintro e w8 ⟨rfl, q8⟩
  have H8 : Hid _ := q8
  clear q8 hown7 hturn7 H7 o7
  go_wp2_with fail
  go_ret

  refine ⟨rfl, put_done H0.out.1 hi rfl rfl H6.out.1.len ?_ ?_ ?_ (HO.out.trans (H6.out.2.1.mono (by simp))) H8.out⟩
  · rw [del_none H0.out.2.2.2.2.2.1]; exact H0.out.2.2.2.1
  · intro b hb; rw [H0.out.2.2.1]; exact Or.inl hb
  · exact Nat.le_trans HO.out.size H6.out.2.2.2
end Go.Proofs.YtbfkloclmlnahabGreat

