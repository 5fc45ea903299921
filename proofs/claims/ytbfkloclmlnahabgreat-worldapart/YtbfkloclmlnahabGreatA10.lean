/- Speeds told touch by touch, and told by meetings, are the same: plain functions. · What has no mass is not moved, and who has no touch keeps speed and place: plain functions. · (*world.World).Body: whichever number is asked for. · cmp.Compare, geom.out's closure and slices.MinFunc over six exits answer what one expects: whatever the six. -/
import Derived.Test.YtbfkloclmlnahabGreatA9
import Derived.Test.YtbfkloclmlnahabGreatA5
import Derived.Test.YtbfkloclmlnahabGreatA0
import Derived.Deep.CutRange
import Derived.Deep.MidRow
import Derived.Test.YtbfkloclmlnahabGreatA2
import Derived.Deep.LoopGhost
import Derived.Deep.Light
open List renaming getElem_toArray → zqa, getElem_cons_succ → zqb, getElem_cons_zero → zqc, setIfInBounds_toArray → zqd, set_cons_zero → zqe, set_cons_succ → zqf, getElem?_toArray → zqg, getElem?_cons_succ → zqh, getElem?_cons_zero → zqi
namespace Go.Proofs.YtbfkloclmlnahabGreat
open Go.ChangeShapes Go.WideShapes Go.ChangeAt Go.RowKit
set_option linter.unusedVariables false
set_option linter.unusedSimpArgs false

/-- What one touch does to speeds. -/
def hitStep (n : Nat) (bo ru : Int) (B : Nat → Bd) (t : Tc) : Nat → Bd :=
  match findX B t.a n, findX B t.b n with
  | some i, some k => if i = k then B else
      if add (lightX (B i).ms) (lightX (B k).ms) = 0 then B else hitX B i k (lightX (B i).ms) (lightX (B k).ms) (add (lightX (B i).ms) (lightX (B k).ms)) t.way bo ru
  | _, _ => B
def roundT (n : Nat) (bo ru : Int) (B : Nat → Bd) (T : Nat → Tc) : Nat → Nat → Bd
  | 0 => B
  | m + 1 => hitStep n bo ru (roundT n bo ru B T m) (T m)
def roundsT (n : Nat) (bo ru : Int) (B : Nat → Bd) (T : Nat → Tc) (m : Nat) : Nat → Nat → Bd
  | 0 => B
  | p + 1 => roundT n bo ru (roundsT n bo ru B T m p) T m
def speedsT (n : Nat) (B : Nat → Bd) (T : Nat → Tc) (m : Nat) (bo ru ro : Int) : Nat → Bd :=
  if rightX bo ru ro = true then clampTo (roundsT n bo ru B T m ro.toNat) n else B
theorem cut_pos {n : Int} (h : 0 < n) : 0 < cut n := by unfold cut; split <;> (try split) <;> omega
theorem cut_nn {n : Int} (h : 0 ≤ n) : 0 ≤ cut n := by unfold cut; split <;> (try split) <;> omega
theorem lightX_nn (m : Int) : 0 ≤ lightX m := by
  unfold lightX
  split
  · omega
  · rename_i h
    have hc := cut_pos (show 0 < m by omega)
    unfold div
    rw [if_neg (by omega)]
    refine cut_nn (Int.tdiv_nonneg ?_ (by omega))
    have : cut 65536 = 65536 := cut_in (by omega) (by omega)
    rw [this]; omega
theorem add_nn {x y : Int} (hx : 0 ≤ x) (hy : 0 ≤ y) : 0 ≤ add x y := by
  unfold add
  have h1 := cut_nn hx
  have h2 := cut_nn hy
  exact cut_nn (by omega)
theorem upd_id (B : Nat → Bd) (i : Nat) (b : Bd) (h1 : b.id = (B i).id) (h2 : b.ms = (B i).ms) (j : Nat) : (upd B i b j).id = (B j).id ∧ (upd B i b j).ms = (B j).ms := by
  unfold upd
  by_cases h : j = i
  · subst h; simp [h1, h2]
  · simp [h]
theorem giveX_id (B : Nat → Bd) (i k : Nat) (x y a b c j : Int) (q : Nat) : (giveX B i k x y a b c j q).id = (B q).id ∧ (giveX B i k x y a b c j q).ms = (B q).ms := by
  unfold giveX
  have h1 := upd_id B i (lessV (B i) a b c (mul j x)) rfl rfl
  have h2 := upd_id (upd B i (lessV (B i) a b c (mul j x))) k (moreV (upd B i (lessV (B i) a b c (mul j x)) k) a b c (mul j y)) rfl rfl q
  exact ⟨h2.1.trans (h1 q).1, h2.2.trans (h1 q).2⟩
theorem hitX_cases (B : Nat → Bd) (i k : Nat) (x y al : Int) (v : V3) (bo ru : Int) : hitX B i k x y al v bo ru = B ∨ (∃ j, hitX B i k x y al v bo ru = giveX B i k x y v.x v.y v.z j) ∨ ∃ j a b c j', hitX B i k x y al v bo ru = giveX (giveX B i k x y v.x v.y v.z j) i k x y a b c j' := by
  unfold hitX
  by_cases h1 : 0 ≤ dotX (relX (B i) (B k)) v
  · simp [h1]
  · simp only [h1, if_false]
    split
    · exact Or.inr (Or.inl ⟨_, rfl⟩)
    · exact Or.inr (Or.inr ⟨_, _, _, _, _, rfl⟩)
theorem hitX_id (B : Nat → Bd) (i k : Nat) (x y al : Int) (v : V3) (bo ru : Int) (q : Nat) : (hitX B i k x y al v bo ru q).id = (B q).id ∧ (hitX B i k x y al v bo ru q).ms = (B q).ms := by
  rcases hitX_cases B i k x y al v bo ru with h | ⟨j, h⟩ | ⟨j, a, b, c, j', h⟩
  · rw [h]; exact ⟨rfl, rfl⟩
  · rw [h]; exact giveX_id ..
  · rw [h]
    have h1 := giveX_id (giveX B i k x y v.x v.y v.z j) i k x y a b c j' q
    have h2 := giveX_id B i k x y v.x v.y v.z j q
    exact ⟨h1.1.trans h2.1, h1.2.trans h2.2⟩
theorem fold_hit (n : Nat) (bo ru : Int) (P : Nat → Bd) (t : Tc) : (meetX1 n P t).foldl (hitM bo ru) P = hitStep n bo ru P t := by
  unfold meetX1 hitStep
  cases findX P t.a n with
  | none => rfl
  | some i =>
    cases findX P t.b n with
    | none => rfl
    | some k =>
      simp only
      by_cases e : i = k
      · simp [e]
      · have hn := add_nn (lightX_nn (P i).ms) (lightX_nn (P k).ms)
        by_cases ha : add (lightX (P i).ms) (lightX (P k).ms) = 0
        · have h2 : ¬ 0 < add (lightX (P i).ms) (lightX (P k).ms) := by omega
          simp [e, ha, h2]
        · have h2 : 0 < add (lightX (P i).ms) (lightX (P k).ms) := by omega
          simp [e, ha, h2, hitM]
theorem hitStep_id (n : Nat) (bo ru : Int) (B : Nat → Bd) (t : Tc) (q : Nat) : (hitStep n bo ru B t q).id = (B q).id ∧ (hitStep n bo ru B t q).ms = (B q).ms := by
  rw [← fold_hit]
  have key : ∀ (ms : List Mt) (C : Nat → Bd), (ms.foldl (hitM bo ru) C q).id = (C q).id ∧ (ms.foldl (hitM bo ru) C q).ms = (C q).ms := by
    intro ms
    induction ms with
    | nil => intro C; exact ⟨rfl, rfl⟩
    | cons t ms ih =>
      intro C
      have h1 := ih (hitM bo ru C t)
      have h2 := hitX_id C t.i t.k t.x t.y t.all t.way bo ru q
      exact ⟨h1.1.trans h2.1, h1.2.trans h2.2⟩
  exact key _ B
theorem roundT_id (n : Nat) (bo ru : Int) (B : Nat → Bd) (T : Nat → Tc) : ∀ m q, (roundT n bo ru B T m q).id = (B q).id ∧ (roundT n bo ru B T m q).ms = (B q).ms
  | 0, q => ⟨rfl, rfl⟩
  | m + 1, q => by
    have h1 := hitStep_id n bo ru (roundT n bo ru B T m) (T m) q
    have h2 := roundT_id n bo ru B T m q
    exact ⟨h1.1.trans h2.1, h1.2.trans h2.2⟩
theorem roundsT_id (n : Nat) (bo ru : Int) (B : Nat → Bd) (T : Nat → Tc) (m : Nat) : ∀ p q, (roundsT n bo ru B T m p q).id = (B q).id ∧ (roundsT n bo ru B T m p q).ms = (B q).ms
  | 0, q => ⟨rfl, rfl⟩
  | p + 1, q => by
    have h1 := roundT_id n bo ru (roundsT n bo ru B T m p) T m q
    have h2 := roundsT_id n bo ru B T m p q
    exact ⟨h1.1.trans h2.1, h1.2.trans h2.2⟩
theorem fold_round (n : Nat) (bo ru : Int) (B C : Nat → Bd) (T : Nat → Tc) (h1 : ∀ i, (B i).id = (C i).id) (h2 : ∀ i, (B i).ms = (C i).ms) : ∀ m, (meetsX n B T m).foldl (hitM bo ru) C = roundT n bo ru C T m
  | 0 => rfl
  | m + 1 => by
    simp only [meetsX, roundT, List.foldl_append, fold_round n bo ru B C T h1 h2 m]
    have h3 := roundT_id n bo ru C T m
    rw [meetX1_congr (fun i => (h1 i).trans (h3 i).1.symm) (fun i => (h2 i).trans (h3 i).2.symm) (T m)]
    exact fold_hit n bo ru _ (T m)
theorem iter_rounds (n : Nat) (bo ru : Int) (B : Nat → Bd) (T : Nat → Tc) (m : Nat) : ∀ p, iterM bo ru (meetsX n B T m) B p = roundsT n bo ru B T m p
  | 0 => rfl
  | p + 1 => by
    simp only [iterM, roundsT, iter_rounds n bo ru B T m p]
    have h3 := roundsT_id n bo ru B T m p
    exact fold_round n bo ru B _ T (fun i => (h3 i).1.symm) (fun i => (h3 i).2.symm) m
theorem speeds_same (n : Nat) (B : Nat → Bd) (T : Nat → Tc) (m : Nat) (bo ru ro : Int) : speedsM n B T m bo ru ro = speedsT n B T m bo ru ro := by
  unfold speedsM speedsT
  rw [iter_rounds]
end Go.Proofs.YtbfkloclmlnahabGreat

namespace Go.Proofs.YtbfkloclmlnahabGreat
open Go.ChangeShapes Go.WideShapes Go.ChangeAt Go.RowKit
set_option linter.unusedVariables false
set_option linter.unusedSimpArgs false

def InV (b : Bd) : Prop := (-6553600 ≤ b.vx ∧ b.vx ≤ 6553600) ∧ (-6553600 ≤ b.vy ∧ b.vy ≤ 6553600) ∧ (-6553600 ≤ b.vz ∧ b.vz ≤ 6553600)
def InA (b : Bd) : Prop := (-65536000 ≤ b.ax ∧ b.ax ≤ 65536000) ∧ (-65536000 ≤ b.ay ∧ b.ay ≤ 65536000) ∧ (-65536000 ≤ b.az ∧ b.az ≤ 65536000)
theorem mul_zero_r (a : Int) : mul a 0 = 0 := by
  unfold mul
  have : cut 0 = 0 := cut_in (by omega) (by omega)
  rw [this]; simp [this]
theorem sub_zero_r {v : Int} (h : -70368744177664 ≤ v) (k : v ≤ 70368744177664) : sub v 0 = v := by
  unfold sub
  have h0 : cut 0 = 0 := cut_in (by omega) (by omega)
  rw [h0, cut_in h k, Int.sub_zero, cut_in h k]
theorem add_zero_r {v : Int} (h : -70368744177664 ≤ v) (k : v ≤ 70368744177664) : add v 0 = v := by
  unfold add
  have h0 : cut 0 = 0 := cut_in (by omega) (by omega)
  rw [h0, cut_in h k, Int.add_zero, cut_in h k]
theorem lessV_zero {q : Bd} (h : InV q) (a b c : Int) : lessV q a b c 0 = q := by
  unfold lessV
  obtain ⟨h1, h2, h3⟩ := h
  rw [mul_zero_r, mul_zero_r, mul_zero_r, sub_zero_r (by omega) (by omega), sub_zero_r (by omega) (by omega), sub_zero_r (by omega) (by omega)]
  rfl
theorem moreV_zero {q : Bd} (h : InV q) (a b c : Int) : moreV q a b c 0 = q := by
  unfold moreV
  obtain ⟨h1, h2, h3⟩ := h
  rw [mul_zero_r, mul_zero_r, mul_zero_r, add_zero_r (by omega) (by omega), add_zero_r (by omega) (by omega), add_zero_r (by omega) (by omega)]
  rfl
theorem giveX_still (B : Nat → Bd) (i k q : Nat) (x y a b c j : Int) (hx : q = i → x = 0) (hy : q = k → y = 0) (h : InV (B q)) : giveX B i k x y a b c j q = B q := by
  have e1 : upd B i (lessV (B i) a b c (mul j x)) q = B q := by
    unfold upd
    by_cases e : q = i
    · subst e; rw [if_pos rfl, hx rfl, mul_zero_r, lessV_zero h]
    · rw [if_neg e]
  show upd (upd B i (lessV (B i) a b c (mul j x))) k (moreV (upd B i (lessV (B i) a b c (mul j x)) k) a b c (mul j y)) q = B q
  by_cases e : q = k
  · subst e
    rw [e1, hy rfl, mul_zero_r, moreV_zero h]
    unfold upd; rw [if_pos rfl]
  · rw [← e1]
    show (if q = k then _ else _) = _
    rw [if_neg e]
theorem hitX_still (B : Nat → Bd) (i k q : Nat) (x y al : Int) (v : V3) (bo ru : Int) (hx : q = i → x = 0) (hy : q = k → y = 0) (h : InV (B q)) : hitX B i k x y al v bo ru q = B q := by
  rcases hitX_cases B i k x y al v bo ru with e | ⟨j, e⟩ | ⟨j, a, b, c, j', e⟩
  · rw [e]
  · rw [e]; exact giveX_still _ _ _ _ _ _ _ _ _ _ hx hy h
  · have e1 := giveX_still B i k q x y v.x v.y v.z j hx hy h
    rw [e, giveX_still _ _ _ _ _ _ _ _ _ _ hx hy (by rw [e1]; exact h), e1]
/-- A touch that does not move this one. -/
def Idle (b : Bd) (t : Tc) : Prop := b.ms ≤ 0 ∨ (t.a ≠ b.id ∧ t.b ≠ b.id)
theorem lightX_none {m : Int} (h : m ≤ 0) : lightX m = 0 := by unfold lightX; rw [if_pos h]
theorem hitStep_still (n : Nat) (bo ru : Int) (B : Nat → Bd) (t : Tc) (q : Nat) (h : InV (B q)) (hi : Idle (B q) t) : hitStep n bo ru B t q = B q := by
  unfold hitStep
  cases h1 : findX B t.a n with
  | none => rfl
  | some i =>
    cases h2 : findX B t.b n with
    | none => rfl
    | some k =>
      obtain ⟨_, e1⟩ := findX_some h1
      obtain ⟨_, e2⟩ := findX_some h2
      show (if i = k then B else if _ then B else _) q = B q
      split
      · rfl
      · split
        · rfl
        · refine hitX_still _ _ _ _ _ _ _ _ _ _ (fun e => ?_) (fun e => ?_) h
          · subst e
            rcases hi with m | ⟨m, _⟩
            · exact lightX_none m
            · exact absurd e1.symm m
          · subst e
            rcases hi with m | ⟨_, m⟩
            · exact lightX_none m
            · exact absurd e2.symm m
theorem roundT_still (n : Nat) (bo ru : Int) (B : Nat → Bd) (T : Nat → Tc) (q : Nat) (h : InV (B q)) : ∀ m, (∀ j, j < m → Idle (B q) (T j)) → roundT n bo ru B T m q = B q
  | 0, _ => rfl
  | m + 1, hi => by
    have e := roundT_still n bo ru B T q h m (fun j hj => hi j (by omega))
    show hitStep n bo ru (roundT n bo ru B T m) (T m) q = B q
    rw [hitStep_still n bo ru _ (T m) q (by rw [e]; exact h) (by rw [e]; exact hi m (by omega)), e]
theorem roundsT_still (n : Nat) (bo ru : Int) (B : Nat → Bd) (T : Nat → Tc) (m q : Nat) (h : InV (B q)) (hi : ∀ j, j < m → Idle (B q) (T j)) : ∀ p, roundsT n bo ru B T m p q = B q
  | 0 => rfl
  | p + 1 => by
    have e := roundsT_still n bo ru B T m q h hi p
    show roundT n bo ru (roundsT n bo ru B T m p) T m q = B q
    rw [roundT_still n bo ru _ T q (by rw [e]; exact h) m (by rw [e]; exact hi), e]
theorem clampB_in {q : Bd} (h : InV q) : clampB q = q := by
  unfold clampB
  obtain ⟨h1, h2, h3⟩ := h
  rw [cl_in (by omega) (by omega), cl_in (by omega) (by omega), cl_in (by omega) (by omega)]
  rfl
theorem speedsT_still (n : Nat) (B : Nat → Bd) (T : Nat → Tc) (m : Nat) (bo ru ro : Int) (q : Nat) (h : InV (B q)) (hi : ∀ j, j < m → Idle (B q) (T j)) : speedsT n B T m bo ru ro q = B q := by
  unfold speedsT
  split
  · have e := roundsT_still n bo ru B T m q h hi ro.toNat
    show (if q < n then clampB (roundsT n bo ru B T m ro.toNat q) else roundsT n bo ru B T m ro.toNat q) = B q
    rw [e]
    split
    · exact clampB_in h
    · rfl
  · rfl
/-- Speeds alone differ. -/
def SpOnly (p q : Bd) : Prop := q = spX p q.vx q.vy q.vz
def AtOnly (p q : Bd) : Prop := q = atX p q.ax q.ay q.az
theorem SpOnly.refl (p : Bd) : SpOnly p p := rfl
theorem AtOnly.refl (p : Bd) : AtOnly p p := rfl
theorem SpOnly.trans {p q r : Bd} (h : SpOnly p q) (k : SpOnly q r) : SpOnly p r := by
  unfold SpOnly at *
  rw [k, h]; rfl
theorem AtOnly.trans {p q r : Bd} (h : AtOnly p q) (k : AtOnly q r) : AtOnly p r := by
  unfold AtOnly at *
  rw [k, h]; rfl
theorem upd_all {P : Bd → Bd → Prop} (hr : ∀ p, P p p) (B : Nat → Bd) (i : Nat) (b : Bd) (h : P (B i) b) (q : Nat) : P (B q) (upd B i b q) := by
  unfold upd
  by_cases e : q = i
  · subst e; rw [if_pos rfl]; exact h
  · rw [if_neg e]; exact hr _
theorem giveX_sp (B : Nat → Bd) (i k : Nat) (x y a b c j : Int) (q : Nat) : SpOnly (B q) (giveX B i k x y a b c j q) :=
  (upd_all SpOnly.refl B i (lessV (B i) a b c (mul j x)) rfl q).trans (upd_all SpOnly.refl (upd B i (lessV (B i) a b c (mul j x))) k (moreV (upd B i (lessV (B i) a b c (mul j x)) k) a b c (mul j y)) rfl q)
theorem partX_at (B : Nat → Bd) (i k : Nat) (x y all : Int) (w : V3) (deep : Int) (q : Nat) : AtOnly (B q) (partX B i k x y all w deep q) :=
  (upd_all AtOnly.refl B i (backX (B i) w (mul (deepX deep all) x)) rfl q).trans (upd_all AtOnly.refl (upd B i (backX (B i) w (mul (deepX deep all) x))) k (forthX (upd B i (backX (B i) w (mul (deepX deep all) x)) k) w (mul (deepX deep all) y)) rfl q)
theorem hitX_sp (B : Nat → Bd) (i k : Nat) (x y al : Int) (v : V3) (bo ru : Int) (q : Nat) : SpOnly (B q) (hitX B i k x y al v bo ru q) := by
  rcases hitX_cases B i k x y al v bo ru with e | ⟨j, e⟩ | ⟨j, a, b, c, j', e⟩
  · rw [e]; exact SpOnly.refl _
  · rw [e]; exact giveX_sp ..
  · rw [e]; exact (giveX_sp B i k x y v.x v.y v.z j q).trans (giveX_sp ..)
theorem hitStep_sp (n : Nat) (bo ru : Int) (B : Nat → Bd) (t : Tc) (q : Nat) : SpOnly (B q) (hitStep n bo ru B t q) := by
  unfold hitStep
  cases findX B t.a n with
  | none => exact SpOnly.refl _
  | some i =>
    cases findX B t.b n with
    | none => exact SpOnly.refl _
    | some k =>
      show SpOnly (B q) ((if i = k then B else if _ then B else _) q)
      split
      · exact SpOnly.refl _
      · split
        · exact SpOnly.refl _
        · exact hitX_sp ..
theorem stepX_at (n : Nat) (B : Nat → Bd) (t : Tc) (q : Nat) : AtOnly (B q) (stepX n B t q) := by
  rcases stepX_cases n B t with e | ⟨i, k, x, y, all, e⟩
  · rw [e]; exact AtOnly.refl _
  · rw [e]; exact partX_at ..
theorem roundT_sp (n : Nat) (bo ru : Int) (B : Nat → Bd) (T : Nat → Tc) (q : Nat) : ∀ m, SpOnly (B q) (roundT n bo ru B T m q)
  | 0 => SpOnly.refl _
  | m + 1 => (roundT_sp n bo ru B T q m).trans (hitStep_sp n bo ru (roundT n bo ru B T m) (T m) q)
theorem roundsT_sp (n : Nat) (bo ru : Int) (B : Nat → Bd) (T : Nat → Tc) (m q : Nat) : ∀ p, SpOnly (B q) (roundsT n bo ru B T m p q)
  | 0 => SpOnly.refl _
  | p + 1 => (roundsT_sp n bo ru B T m q p).trans (roundT_sp n bo ru (roundsT n bo ru B T m p) T q m)
theorem speedsT_sp (n : Nat) (B : Nat → Bd) (T : Nat → Tc) (m : Nat) (bo ru ro : Int) (q : Nat) : SpOnly (B q) (speedsT n B T m bo ru ro q) := by
  unfold speedsT
  split
  · have e := roundsT_sp n bo ru B T m q ro.toNat
    show SpOnly (B q) (if q < n then clampB (roundsT n bo ru B T m ro.toNat q) else roundsT n bo ru B T m ro.toNat q)
    split
    · exact e.trans rfl
    · exact e
  · exact SpOnly.refl _
theorem placesX_at (n : Nat) (B : Nat → Bd) (T : Nat → Tc) (q : Nat) : ∀ m, AtOnly (B q) (placesX n B T m q)
  | 0 => AtOnly.refl _
  | m + 1 => (placesX_at n B T q m).trans (stepX_at n (placesX n B T m) (T m) q)
end Go.Proofs.YtbfkloclmlnahabGreat

namespace Go.Proofs.YtbfkloclmlnahabGreat
open Go.ChangeShapes Go.WideShapes Go.ChangeAt Go.RowKit
set_option linter.unusedVariables false
set_option linter.unusedSimpArgs false

/-- What Body tells of a number: a body of that number, or none. -/
def bodyX (B : Nat → Bd) (r : Nat) (v : Bool) : Bd := if v = true then B r else bd0
set_option maxRecDepth 100000 in
set_option maxHeartbeats 1000000 in
theorem wbody_calls (x : Nat) (id : Int) (c : Wc) (a : Option Addr) (n cap t : Nat) (la st : Int) (B : Nat → Bd) (w : World) (hn : n ≤ 60) (hw : WorldAt w x c a n cap t la st) (hb : BodiesAt w a n B) :
    Calls Tryz.prog 17 #[.pointer (some ⟨x, 0, none⟩), .int .i64 id] w fun e w' => ∃ (r : Nat) (v : Bool), e = .returned (.tuple #[bdV (bodyX B r v), .bool v]) ∧ FindIs B n id r v ∧ Only [] w w' := by
  have HB : Hid (WorldAt w x c a n cap t la st ∧ BodiesAt w a n B ∧ n ≤ 60) := ⟨hw, hb, hn⟩
  clear hw hb hn
  go_enter Tryz.func17, Tryz.ntmps17
  go_upto_region 1 with fail
  have H0 : Hid ((w.alloc (.cells #[.int .i64 0, .int .i64 0, .int .i64 0, .int .i64 0, .int .i64 0, .int .i64 0, .int .i64 0, .int .i64 0, .int .i64 0, .int .i64 0, .int .i64 0, .int .i64 0, .int .i64 0, .int .i64 0, .int .i64 0, .int .i64 0, .int .i64 0] 37)).heap[w.heap.size]? = some (.cells #[.int .i64 0, .int .i64 0, .int .i64 0, .int .i64 0, .int .i64 0, .int .i64 0, .int .i64 0, .int .i64 0, .int .i64 0, .int .i64 0, .int .i64 0, .int .i64 0, .int .i64 0, .int .i64 0, .int .i64 0, .int .i64 0, .int .i64 0] 37) ∧ Only [] w (w.alloc (.cells #[.int .i64 0, .int .i64 0, .int .i64 0, .int .i64 0, .int .i64 0, .int .i64 0, .int .i64 0, .int .i64 0, .int .i64 0, .int .i64 0, .int .i64 0, .int .i64 0, .int .i64 0, .int .i64 0, .int .i64 0, .int .i64 0, .int .i64 0] 37))) := ⟨(MapKept.heap_alloc w _).1, (Only.refl [] w).alloc _⟩
  have HK0 : Hid (w.heap.size ≤ w.heap.size) := Nat.le_refl _
  revert H0 HK0
  generalize hkr : w.heap.size = kr
  have HK : Hid (w.heap.size ≤ kr) := Nat.le_of_eq hkr
  clear hkr
  generalize World.alloc w _ = w1
  intro H0 _
  go_wp2_with fail
  refine (wfind_calls x id c a n cap t la st B w1 HB.out.2.2 (HB.out.1.only H0.out.2 (by simp)) (HB.out.2.1.only H0.out.2)).mono ?_
  rintro e w2 ⟨r, v, rfl, hf, o2⟩
  have H2 : Hid (w2.heap[kr]? = some (.cells #[.int .i64 0, .int .i64 0, .int .i64 0, .int .i64 0, .int .i64 0, .int .i64 0, .int .i64 0, .int .i64 0, .int .i64 0, .int .i64 0, .int .i64 0, .int .i64 0, .int .i64 0, .int .i64 0, .int .i64 0, .int .i64 0, .int .i64 0] 37) ∧ Only [] w w2 ∧ FindIs B n id r v) := ⟨(o2.block kr (Array.getElem?_eq_some_iff.1 H0.out.1).1 (by simp)).trans H0.out.1, H0.out.2.trans o2, hf⟩
  clear hf o2 H0
  cases v with
  | false =>
    have hcell : ∀ k, k < 17 → (w2.setCells kr 0 (bdL bd0)).cell? ⟨kr, k, none⟩ = some (bc bd0 k) := fun k hk => by
      have h1 := World.cell?_setCells_in kr (bdL bd0) 0 w2 (fun j hj => (there17 H2.out.1 rfl j (by rw [bdL_len] at hj; exact hj)).1) k (by rw [bdL_len]; exact hk)
      rw [Nat.zero_add] at h1
      rw [h1, ← bdL_at bd0 k hk]
      simp
    have HON : Hid (Only [] w (w2.setCells kr 0 (bdL bd0))) := H2.out.2.1.setCells kr (Or.inr HK.out) _ 0
    have y0 := hcell 0 (by omega)
    have y1 := hcell 1 (by omega)
    have y2 := hcell 2 (by omega)
    have y3 := hcell 3 (by omega)
    have y4 := hcell 4 (by omega)
    have y5 := hcell 5 (by omega)
    have y6 := hcell 6 (by omega)
    have y7 := hcell 7 (by omega)
    have y8 := hcell 8 (by omega)
    have y9 := hcell 9 (by omega)
    have y10 := hcell 10 (by omega)
    have y11 := hcell 11 (by omega)
    have y12 := hcell 12 (by omega)
    have y13 := hcell 13 (by omega)
    have y14 := hcell 14 (by omega)
    have y15 := hcell 15 (by omega)
    have y16 := hcell 16 (by omega)
    simp only [bc] at y0 y1 y2 y3 y4 y5 y6 y7 y8 y9 y10 y11 y12 y13 y14 y15 y16
    clear hcell
    go_wp2_with (first | (refine wpList_store_mid rfl 37 (.tmp 4) (.tmp 16) rfl kr 0 (bdL bd0).toArray rfl rfl (there17 H2.out.1 rfl) bodySize (one17 bd0) ?_))
    try simp only [List.toList_toArray]
    generalize World.setCells w2 kr 0 (bdL bd0) = w3 at y0 y1 y2 y3 y4 y5 y6 y7 y8 y9 y10 y11 y12 y13 y14 y15 y16 HON ⊢
    as_aux_lemma =>
      exact bodyPost_ret (v := .tuple #[bdV bd0, .bool false]) (by simp [results, Tryz.results17, go_sem, y0, y1, y2, y3, y4, y5, y6, y7, y8, y9, y10, y11, y12, y13, y14, y15, y16, bdV]) rfl ⟨r, false, by rfl, H2.out.2.2, HON.out⟩
  | true =>
    have hv := H2.out.2.2.2
    have hr : r < n := by simp at hv; exact hv.1
    have hrl : (r : Int) < (n : Int) := by omega
    have s7 := (HB.out.1.only H2.out.2.1 (by simp)).off 7
    simp only [zqg, zqh, zqi] at s7
    have hn := HB.out.2.2
    obtain ⟨g, o, rfl, hc⟩ := (HB.out.2.1.only H2.out.2.1) r hr
    have HBR : Hid (bodyX B r true = B r) := rfl
    generalize B r = q at hc HBR
    clear hv
    have hcell : ∀ k, k < 17 → (w2.setCells kr 0 (bdL q)).cell? ⟨kr, k, none⟩ = some (bc q k) := fun k hk => by
      have h1 := World.cell?_setCells_in kr (bdL q) 0 w2 (fun j hj => (there17 H2.out.1 rfl j (by rw [bdL_len] at hj; exact hj)).1) k (by rw [bdL_len]; exact hk)
      rw [Nat.zero_add] at h1
      rw [h1, ← bdL_at q k hk]
      simp
    have HON : Hid (Only [] w (w2.setCells kr 0 (bdL q))) := H2.out.2.1.setCells kr (Or.inr HK.out) _ 0
    have y0 := hcell 0 (by omega)
    have y1 := hcell 1 (by omega)
    have y2 := hcell 2 (by omega)
    have y3 := hcell 3 (by omega)
    have y4 := hcell 4 (by omega)
    have y5 := hcell 5 (by omega)
    have y6 := hcell 6 (by omega)
    have y7 := hcell 7 (by omega)
    have y8 := hcell 8 (by omega)
    have y9 := hcell 9 (by omega)
    have y10 := hcell 10 (by omega)
    have y11 := hcell 11 (by omega)
    have y12 := hcell 12 (by omega)
    have y13 := hcell 13 (by omega)
    have y14 := hcell 14 (by omega)
    have y15 := hcell 15 (by omega)
    have y16 := hcell 16 (by omega)
    simp only [bc] at y0 y1 y2 y3 y4 y5 y6 y7 y8 y9 y10 y11 y12 y13 y14 y15 y16
    clear hcell
    go_wp2_with (first | (refine wpList_load_mid rfl 37 (.tmp 22) rfl g (o + r * 17) rfl (bdL q) _ (range17 hc) Tryz.underlying37 rfl bodySize ?_) | (refine wpList_store_mid rfl 37 (.tmp 4) (.tmp 23) rfl kr 0 (bdL q).toArray rfl rfl (there17 H2.out.1 rfl) bodySize (one17 q) ?_))
    try simp only [List.toList_toArray]
    generalize World.setCells w2 kr 0 (bdL q) = w3 at y0 y1 y2 y3 y4 y5 y6 y7 y8 y9 y10 y11 y12 y13 y14 y15 y16 HON ⊢
    as_aux_lemma =>
      exact bodyPost_ret (v := .tuple #[bdV q, .bool true]) (by simp [results, Tryz.results17, go_sem, y0, y1, y2, y3, y4, y5, y6, y7, y8, y9, y10, y11, y12, y13, y14, y15, y16, bdV]) rfl ⟨r, true, by rw [HBR.out], H2.out.2.2, HON.out⟩
end Go.Proofs.YtbfkloclmlnahabGreat

namespace Go.Proofs.YtbfkloclmlnahabGreat
open Go.ChangeShapes Go.WideShapes Go.ChangeAt Go.RowKit
set_option linter.unusedSimpArgs false

/-- A way out, and how far it is. -/
structure Ex where
  x : Int
  y : Int
  z : Int
  d : Int
/-- The second one, where it is shorter. -/
def Ex.or (m c : Ex) : Ex := if c.d < m.d then c else m
theorem Ex.or_lt {m c : Ex} (h : c.d < m.d) : m.or c = c := by unfold Ex.or; rw [if_pos h]
theorem Ex.or_ge {m c : Ex} (h : ¬ c.d < m.d) : m.or c = m := by unfold Ex.or; rw [if_neg h]

theorem or_lt' {m c q : Ex} (hm : m = q) (h : c.d < m.d) : q.or c = c := by subst hm; exact Ex.or_lt h
theorem or_ge' {m c q : Ex} (hm : m = q) (h : ¬ c.d < m.d) : q.or c = m := by subst hm; exact Ex.or_ge h
theorem gisNaN_calls (n : Int) (w : World) : Calls Tryz.prog 80 #[.int .i64 n] w fun e w' => e = .returned (.bool false) ∧ w' = w := by
  have h : (n != n) = false := by simp
  go_enter Tryz.func80, Tryz.ntmps80
  go_wp2
  go_ret
  exact ⟨rfl, rfl⟩
def gcmpI (a b : Int) : Int := if a < b then -1 else if b < a then 1 else 0
theorem cmpI_lt {a b : Int} (h : a < b) : decide (gcmpI a b < 0) = true := by unfold gcmpI; rw [if_pos h]; decide
theorem cmpI_ge {a b : Int} (h : ¬ a < b) : decide (gcmpI a b < 0) = false := by
  unfold gcmpI; rw [if_neg h]; split <;> decide
theorem gcompare_calls (a b : Int) (w : World) : Calls Tryz.prog 50 #[.int .i64 a, .int .i64 b] w fun e w' => e = .returned (.int .i64 (gcmpI a b)) ∧ w' = w := by
  unfold gcmpI
  by_cases h : a < b
  · rw [if_pos h]
    go_enter Tryz.func50, Tryz.ntmps50
    go_wp2_with (go_at_call 80; refine (gisNaN_calls _ _).mono ?_; rintro e w1 ⟨rfl, rfl⟩)
    go_ret
    exact ⟨rfl, rfl⟩
  · rw [if_neg h]
    by_cases h2 : b < a
    · rw [if_pos h2]
      go_enter Tryz.func50, Tryz.ntmps50
      go_wp2_with (go_at_call 80; refine (gisNaN_calls _ _).mono ?_; rintro e w1 ⟨rfl, rfl⟩)
      go_ret
      exact ⟨rfl, rfl⟩
    · rw [if_neg h2]
      go_enter Tryz.func50, Tryz.ntmps50
      go_wp2_with (go_at_call 80; refine (gisNaN_calls _ _).mono ?_; rintro e w1 ⟨rfl, rfl⟩)
      go_ret
      exact ⟨rfl, rfl⟩
theorem out1_calls (a b : Ex) (w : World) : Calls Tryz.prog 112 #[.agg #[.int .i64 (a.x), .int .i64 (a.y), .int .i64 (a.z), .int .i64 (a.d)], .agg #[.int .i64 (b.x), .int .i64 (b.y), .int .i64 (b.z), .int .i64 (b.d)]] w fun e w' => e = .returned (.int .i64 (gcmpI a.d b.d)) ∧ Kept w w' := by
  go_enter Tryz.func112, Tryz.ntmps112
  go_wp2_with (go_at_call 50; refine (gcompare_calls _ _ _).mono ?_; rintro e w1 ⟨rfl, rfl⟩)
  go_ret
  exact ⟨rfl, ((Kept.refl _).alloc _ _).alloc _ _⟩

theorem set4_of {w : World} {b : Nat} {v0 v1 v2 v3 u0 u1 u2 u3 : Value} (h0 : w.cell? ⟨b, 0, none⟩ = some u0) (h1 : w.cell? ⟨b, 1, none⟩ = some u1) (h2 : w.cell? ⟨b, 2, none⟩ = some u2) (h3 : w.cell? ⟨b, 3, none⟩ = some u3) :
    ((((w.setCell ⟨b, 0, none⟩ v0).setCell ⟨b, 1, none⟩ v1).setCell ⟨b, 2, none⟩ v2).setCell ⟨b, 3, none⟩ v3).cell? ⟨b, 0, none⟩ = some v0 ∧ ((((w.setCell ⟨b, 0, none⟩ v0).setCell ⟨b, 1, none⟩ v1).setCell ⟨b, 2, none⟩ v2).setCell ⟨b, 3, none⟩ v3).cell? ⟨b, 1, none⟩ = some v1 ∧ ((((w.setCell ⟨b, 0, none⟩ v0).setCell ⟨b, 1, none⟩ v1).setCell ⟨b, 2, none⟩ v2).setCell ⟨b, 3, none⟩ v3).cell? ⟨b, 2, none⟩ = some v2 ∧ ((((w.setCell ⟨b, 0, none⟩ v0).setCell ⟨b, 1, none⟩ v1).setCell ⟨b, 2, none⟩ v2).setCell ⟨b, 3, none⟩ v3).cell? ⟨b, 3, none⟩ = some v3 := by
  have n1 : ∀ i j : Nat, i ≠ j → (⟨b, i, none⟩ : Addr) ≠ ⟨b, j, none⟩ := fun i j h e => h (by injection e)
  exact ⟨(World.cell?_setCell_other _ _ _ _ (n1 3 0 (by decide))).trans ((World.cell?_setCell_other _ _ _ _ (n1 2 0 (by decide))).trans ((World.cell?_setCell_other _ _ _ _ (n1 1 0 (by decide))).trans (World.cell?_setCell_same _ _ _ (h0)))), (World.cell?_setCell_other _ _ _ _ (n1 3 1 (by decide))).trans ((World.cell?_setCell_other _ _ _ _ (n1 2 1 (by decide))).trans (World.cell?_setCell_same _ _ _ ((World.cell?_setCell_other _ _ _ _ (n1 0 1 (by decide))).trans (h1)))), (World.cell?_setCell_other _ _ _ _ (n1 3 2 (by decide))).trans (World.cell?_setCell_same _ _ _ ((World.cell?_setCell_other _ _ _ _ (n1 1 2 (by decide))).trans ((World.cell?_setCell_other _ _ _ _ (n1 0 2 (by decide))).trans (h2)))), World.cell?_setCell_same _ _ _ ((World.cell?_setCell_other _ _ _ _ (n1 2 3 (by decide))).trans ((World.cell?_setCell_other _ _ _ _ (n1 1 3 (by decide))).trans ((World.cell?_setCell_other _ _ _ _ (n1 0 3 (by decide))).trans (h3))))⟩
theorem kept_set4 {w w1 : World} {b : Nat} (k : Kept w w1) (h : w.heap.size ≤ b) (v0 v1 v2 v3 : Value) : Kept w ((((w1.setCell ⟨b, 0, none⟩ v0).setCell ⟨b, 1, none⟩ v1).setCell ⟨b, 2, none⟩ v2).setCell ⟨b, 3, none⟩ v3) :=
  ((((k.setCell (p := ⟨b, 0, none⟩) h v0).setCell (p := ⟨b, 1, none⟩) h v1).setCell (p := ⟨b, 2, none⟩) h v2).setCell (p := ⟨b, 3, none⟩) h v3)

/-- Six exits in a row. -/
def Six (b : Nat) (e0 e1 e2 e3 e4 e5 : Ex) (w : World) : Prop :=
  w.cell? ⟨b, 0, none⟩ = some (.int .i64 e0.x) ∧ w.cell? ⟨b, 1, none⟩ = some (.int .i64 e0.y) ∧ w.cell? ⟨b, 2, none⟩ = some (.int .i64 e0.z) ∧ w.cell? ⟨b, 3, none⟩ = some (.int .i64 e0.d) ∧ w.cell? ⟨b, 4, none⟩ = some (.int .i64 e1.x) ∧ w.cell? ⟨b, 5, none⟩ = some (.int .i64 e1.y) ∧ w.cell? ⟨b, 6, none⟩ = some (.int .i64 e1.z) ∧ w.cell? ⟨b, 7, none⟩ = some (.int .i64 e1.d) ∧ w.cell? ⟨b, 8, none⟩ = some (.int .i64 e2.x) ∧ w.cell? ⟨b, 9, none⟩ = some (.int .i64 e2.y) ∧ w.cell? ⟨b, 10, none⟩ = some (.int .i64 e2.z) ∧ w.cell? ⟨b, 11, none⟩ = some (.int .i64 e2.d) ∧ w.cell? ⟨b, 12, none⟩ = some (.int .i64 e3.x) ∧ w.cell? ⟨b, 13, none⟩ = some (.int .i64 e3.y) ∧ w.cell? ⟨b, 14, none⟩ = some (.int .i64 e3.z) ∧ w.cell? ⟨b, 15, none⟩ = some (.int .i64 e3.d) ∧ w.cell? ⟨b, 16, none⟩ = some (.int .i64 e4.x) ∧ w.cell? ⟨b, 17, none⟩ = some (.int .i64 e4.y) ∧ w.cell? ⟨b, 18, none⟩ = some (.int .i64 e4.z) ∧ w.cell? ⟨b, 19, none⟩ = some (.int .i64 e4.d) ∧ w.cell? ⟨b, 20, none⟩ = some (.int .i64 e5.x) ∧ w.cell? ⟨b, 21, none⟩ = some (.int .i64 e5.y) ∧ w.cell? ⟨b, 22, none⟩ = some (.int .i64 e5.z) ∧ w.cell? ⟨b, 23, none⟩ = some (.int .i64 e5.d)
theorem Six.step {b : Nat} {e0 e1 e2 e3 e4 e5 : Ex} {w w' : World} (k : Kept w w') (h : Six b e0 e1 e2 e3 e4 e5 w) : Six b e0 e1 e2 e3 e4 e5 w' := by
  obtain ⟨h0, h1, h2, h3, h4, h5, h6, h7, h8, h9, h10, h11, h12, h13, h14, h15, h16, h17, h18, h19, h20, h21, h22, h23⟩ := h
  exact ⟨kept_cell k h0, kept_cell k h1, kept_cell k h2, kept_cell k h3, kept_cell k h4, kept_cell k h5, kept_cell k h6, kept_cell k h7, kept_cell k h8, kept_cell k h9, kept_cell k h10, kept_cell k h11, kept_cell k h12, kept_cell k h13, kept_cell k h14, kept_cell k h15, kept_cell k h16, kept_cell k h17, kept_cell k h18, kept_cell k h19, kept_cell k h20, kept_cell k h21, kept_cell k h22, kept_cell k h23⟩
/-- The least one so far lies at m; r is the result's place. -/
def Best (m r : Nat) (b : Ex) (w : World) : Prop :=
  w.cell? ⟨m, 0, none⟩ = some (.int .i64 b.x) ∧ w.cell? ⟨m, 1, none⟩ = some (.int .i64 b.y) ∧ w.cell? ⟨m, 2, none⟩ = some (.int .i64 b.z) ∧ w.cell? ⟨m, 3, none⟩ = some (.int .i64 b.d) ∧ w.frozen? ⟨m, 0, none⟩ = false ∧ w.frozen? ⟨m, 1, none⟩ = false ∧ w.frozen? ⟨m, 2, none⟩ = false ∧ w.frozen? ⟨m, 3, none⟩ = false ∧ w.cell? ⟨r, 0, none⟩ = some (.int .i64 0) ∧ w.cell? ⟨r, 1, none⟩ = some (.int .i64 0) ∧ w.cell? ⟨r, 2, none⟩ = some (.int .i64 0) ∧ w.cell? ⟨r, 3, none⟩ = some (.int .i64 0) ∧ w.frozen? ⟨r, 0, none⟩ = false ∧ w.frozen? ⟨r, 1, none⟩ = false ∧ w.frozen? ⟨r, 2, none⟩ = false ∧ w.frozen? ⟨r, 3, none⟩ = false
theorem Best.step {m r : Nat} {b : Ex} {w w' : World} (k : Kept w w') (h : Best m r b w) : Best m r b w' := by
  obtain ⟨h0, h1, h2, h3, h4, h5, h6, h7, h8, h9, h10, h11, h12, h13, h14, h15⟩ := h
  exact ⟨kept_cell k h0, kept_cell k h1, kept_cell k h2, kept_cell k h3, kept_frozen k h4, kept_frozen k h5, kept_frozen k h6, kept_frozen k h7, kept_cell k h8, kept_cell k h9, kept_cell k h10, kept_cell k h11, kept_frozen k h12, kept_frozen k h13, kept_frozen k h14, kept_frozen k h15⟩
theorem Best.put {m r : Nat} {b : Ex} {w : World} (h : Best m r b w) (hn : m ≠ r) (c : Ex) : Best m r c ((((w.setCell ⟨m, 0, none⟩ (.int .i64 c.x)).setCell ⟨m, 1, none⟩ (.int .i64 c.y)).setCell ⟨m, 2, none⟩ (.int .i64 c.z)).setCell ⟨m, 3, none⟩ (.int .i64 c.d)) := by
  have n1 : ∀ i j : Nat, (⟨m, i, none⟩ : Addr) ≠ ⟨r, j, none⟩ := fun i j e => hn (by injection e)
  obtain ⟨h0, h1, h2, h3, h4, h5, h6, h7, h8, h9, h10, h11, h12, h13, h14, h15⟩ := h
  obtain ⟨z0, z1, z2, z3⟩ := set4_of (v0 := .int .i64 c.x) (v1 := .int .i64 c.y) (v2 := .int .i64 c.z) (v3 := .int .i64 c.d) h0 h1 h2 h3
  exact ⟨z0, z1, z2, z3, (World.frozen?_setCell _ _ _ _).trans ((World.frozen?_setCell _ _ _ _).trans ((World.frozen?_setCell _ _ _ _).trans ((World.frozen?_setCell _ _ _ _).trans (h4)))), (World.frozen?_setCell _ _ _ _).trans ((World.frozen?_setCell _ _ _ _).trans ((World.frozen?_setCell _ _ _ _).trans ((World.frozen?_setCell _ _ _ _).trans (h5)))), (World.frozen?_setCell _ _ _ _).trans ((World.frozen?_setCell _ _ _ _).trans ((World.frozen?_setCell _ _ _ _).trans ((World.frozen?_setCell _ _ _ _).trans (h6)))), (World.frozen?_setCell _ _ _ _).trans ((World.frozen?_setCell _ _ _ _).trans ((World.frozen?_setCell _ _ _ _).trans ((World.frozen?_setCell _ _ _ _).trans (h7)))), (World.cell?_setCell_other _ _ _ _ (n1 3 _)).trans ((World.cell?_setCell_other _ _ _ _ (n1 2 _)).trans ((World.cell?_setCell_other _ _ _ _ (n1 1 _)).trans ((World.cell?_setCell_other _ _ _ _ (n1 0 _)).trans (h8)))), (World.cell?_setCell_other _ _ _ _ (n1 3 _)).trans ((World.cell?_setCell_other _ _ _ _ (n1 2 _)).trans ((World.cell?_setCell_other _ _ _ _ (n1 1 _)).trans ((World.cell?_setCell_other _ _ _ _ (n1 0 _)).trans (h9)))), (World.cell?_setCell_other _ _ _ _ (n1 3 _)).trans ((World.cell?_setCell_other _ _ _ _ (n1 2 _)).trans ((World.cell?_setCell_other _ _ _ _ (n1 1 _)).trans ((World.cell?_setCell_other _ _ _ _ (n1 0 _)).trans (h10)))), (World.cell?_setCell_other _ _ _ _ (n1 3 _)).trans ((World.cell?_setCell_other _ _ _ _ (n1 2 _)).trans ((World.cell?_setCell_other _ _ _ _ (n1 1 _)).trans ((World.cell?_setCell_other _ _ _ _ (n1 0 _)).trans (h11)))), (World.frozen?_setCell _ _ _ _).trans ((World.frozen?_setCell _ _ _ _).trans ((World.frozen?_setCell _ _ _ _).trans ((World.frozen?_setCell _ _ _ _).trans (h12)))), (World.frozen?_setCell _ _ _ _).trans ((World.frozen?_setCell _ _ _ _).trans ((World.frozen?_setCell _ _ _ _).trans ((World.frozen?_setCell _ _ _ _).trans (h13)))), (World.frozen?_setCell _ _ _ _).trans ((World.frozen?_setCell _ _ _ _).trans ((World.frozen?_setCell _ _ _ _).trans ((World.frozen?_setCell _ _ _ _).trans (h14)))), (World.frozen?_setCell _ _ _ _).trans ((World.frozen?_setCell _ _ _ _).trans ((World.frozen?_setCell _ _ _ _).trans ((World.frozen?_setCell _ _ _ _).trans (h15))))⟩
theorem Best.eq {m r : Nat} {b b' : Ex} {w : World} (h : b' = b) (H : Best m r b w) : Best m r b' w := by rw [h]; exact H
def pickE (e0 e1 e2 e3 e4 e5 : Ex) : Nat → Ex
  | 0 => e0
  | 1 => e0.or e1
  | 2 => (e0.or e1).or e2
  | 3 => ((e0.or e1).or e2).or e3
  | 4 => (((e0.or e1).or e2).or e3).or e4
  | _ => ((((e0.or e1).or e2).or e3).or e4).or e5
set_option maxHeartbeats 8000000 in
theorem minFunc_calls (b : Nat) (e0 e1 e2 e3 e4 e5 : Ex) (w : World) (H : Six b e0 e1 e2 e3 e4 e5 w) :
    Calls Tryz.prog 111 #[.slice (some ⟨b, 0, none⟩) 6 6, .func (.func 112) #[] #[]] w fun e w' => e = .returned (.agg #[.int .i64 ((pickE e0 e1 e2 e3 e4 e5 5).x), .int .i64 ((pickE e0 e1 e2 e3 e4 e5 5).y), .int .i64 ((pickE e0 e1 e2 e3 e4 e5 5).z), .int .i64 ((pickE e0 e1 e2 e3 e4 e5 5).d)]) ∧ Kept w w' := by
  have HS : Hid (Six b e0 e1 e2 e3 e4 e5 w) := H
  have l0 := later H.1
  have l1 := later H.2.1
  have l2 := later H.2.2.1
  have l3 := later H.2.2.2.1
  clear H
  go_enter Tryz.func111, Tryz.ntmps111
  go_wp2
  clear l0 l1 l2 l3
  have hn : w.heap.size + 1 ≠ w.heap.size := by omega
  go_loopg [6] 6 (fun kx s6 wr => Kept w wr ∧ ((s6 = .int .i64 1 ∧ 5 ≤ kx ∧ Best (w.heap.size + 1) w.heap.size (pickE e0 e1 e2 e3 e4 e5 0) wr) ∨ (s6 = .int .i64 2 ∧ 4 ≤ kx ∧ Best (w.heap.size + 1) w.heap.size (pickE e0 e1 e2 e3 e4 e5 1) wr) ∨ (s6 = .int .i64 3 ∧ 3 ≤ kx ∧ Best (w.heap.size + 1) w.heap.size (pickE e0 e1 e2 e3 e4 e5 2) wr) ∨ (s6 = .int .i64 4 ∧ 2 ≤ kx ∧ Best (w.heap.size + 1) w.heap.size (pickE e0 e1 e2 e3 e4 e5 3) wr) ∨ (s6 = .int .i64 5 ∧ 1 ≤ kx ∧ Best (w.heap.size + 1) w.heap.size (pickE e0 e1 e2 e3 e4 e5 4) wr) ∨ (s6 = .int .i64 6 ∧ 0 ≤ kx ∧ Best (w.heap.size + 1) w.heap.size (pickE e0 e1 e2 e3 e4 e5 5) wr)))
  case atStart => exact ⟨((Kept.refl w).alloc _ _).alloc _ _, Or.inl ⟨rfl, by omega, by refine ⟨?_, ?_, ?_, ?_, ?_, ?_, ?_, ?_, ?_, ?_, ?_, ?_, ?_, ?_, ?_, ?_⟩ <;> (first | rfl | (go_simp <;> rfl))⟩⟩
  case round =>
    obtain ⟨hk, hrel⟩ := hrel
    rcases hrel with ⟨rfl, hkx, HB⟩ | ⟨rfl, hkx, HB⟩ | ⟨rfl, hkx, HB⟩ | ⟨rfl, hkx, HB⟩ | ⟨rfl, hkx, HB⟩ | ⟨rfl, hkx, HB⟩
    · obtain ⟨m, hm0⟩ : ∃ m, m = (pickE e0 e1 e2 e3 e4 e5 0) := ⟨_, rfl⟩
      rw [← hm0] at HB
      have hm : Aside (m = (pickE e0 e1 e2 e3 e4 e5 0)) := hm0
      clear hm0
      obtain ⟨_, _, _, _, c0, c1, c2, c3, _⟩ := HS.out.step hk
      have HB0 : Aside (Best (w.heap.size + 1) w.heap.size m wr) := HB
      obtain ⟨m0, m1, m2, m3, _⟩ := HB
      by_cases h : e1.d < m.d
      · have hd := cmpI_lt h
        have HL : Aside (e1.d < m.d) := h
        clear h
        go_wp2
        refine wp_region_held_drew (S := (fun w' => Kept wr w' ∧ w'.cell? ⟨b, 4, none⟩ = some (.int .i64 e1.x) ∧ w'.cell? ⟨b, 5, none⟩ = some (.int .i64 e1.y) ∧ w'.cell? ⟨b, 6, none⟩ = some (.int .i64 e1.z) ∧ w'.cell? ⟨b, 7, none⟩ = some (.int .i64 e1.d) ∧ w'.cell? ⟨w.heap.size + 1, 0, none⟩ = some (.int .i64 m.x) ∧ w'.cell? ⟨w.heap.size + 1, 1, none⟩ = some (.int .i64 m.y) ∧ w'.cell? ⟨w.heap.size + 1, 2, none⟩ = some (.int .i64 m.z) ∧ w'.cell? ⟨w.heap.size + 1, 3, none⟩ = some (.int .i64 m.d))) (by kernel_rfl) ?_ (fun hHeld1 => ?_)
        · (try dsimp only); exact ⟨(Kept.refl _).drew, kept_cell (Kept.refl _).drew c0, kept_cell (Kept.refl _).drew c1, kept_cell (Kept.refl _).drew c2, kept_cell (Kept.refl _).drew c3, kept_cell (Kept.refl _).drew m0, kept_cell (Kept.refl _).drew m1, kept_cell (Kept.refl _).drew m2, kept_cell (Kept.refl _).drew m3⟩
        refine wpAnyH_take (i := 0) (v := ?_) rfl (by kernel_rfl) (by kernel_rfl) (by kernel_rfl) (fun _ _ _ h => h) (Or.inl ⟨by kernel_rfl, ?_⟩) (by assumption) ?_
        rotate_left
        · intro w'' hSw; (try dsimp only at hSw); simp only [zqa, zqb, zqc]; (go_simp <;> with_reducible rfl)
        try simp only [Act.put, zqd, zqe, zqf, zqa, zqb, zqc]
        refine wpAnyH_take (i := 1) (v := ?_) rfl (by kernel_rfl) (by kernel_rfl) (by kernel_rfl) (fun _ _ _ h => h) (Or.inl ⟨by kernel_rfl, ?_⟩) (by assumption) ?_
        rotate_left
        · intro w'' hSw; (try dsimp only at hSw); simp only [zqa, zqb, zqc]; (go_simp <;> with_reducible rfl)
        try simp only [Act.put, zqd, zqe, zqf, zqa, zqb, zqc]
        refine wpAnyH_take (i := 2) (v := ?_) rfl (by kernel_rfl) (by kernel_rfl) (by kernel_rfl) (fun _ _ _ h => h) (Or.inl ⟨by kernel_rfl, ?_⟩) (by assumption) ?_
        rotate_left
        · intro w'' hSw; (try dsimp only at hSw); simp only [zqa, zqb, zqc]; (go_simp <;> with_reducible rfl)
        try simp only [Act.put, zqd, zqe, zqf, zqa, zqb, zqc]
        refine wpAnyH_take (i := 3) (v := ?_) rfl (by kernel_rfl) (by kernel_rfl) (by kernel_rfl) (fun _ _ _ h => h) (Or.inl ⟨by kernel_rfl, ?_⟩) (by assumption) ?_
        rotate_left
        · intro w'' hSw; (try dsimp only at hSw); simp only [zqa, zqb, zqc]; (go_simp <;> with_reducible rfl)
        try simp only [Act.put, zqd, zqe, zqf, zqa, zqb, zqc]
        refine wpAnyH_take (i := 4) (v := ?_) rfl (by kernel_rfl) (by kernel_rfl) (by kernel_rfl) (fun _ _ _ h => h) (Or.inl ⟨by kernel_rfl, ?_⟩) (by assumption) ?_
        rotate_left
        · intro w'' hSw; (try dsimp only at hSw); simp only [zqa, zqb, zqc]; (go_simp <;> with_reducible rfl)
        try simp only [Act.put, zqd, zqe, zqf, zqa, zqb, zqc]
        refine wpAnyH_take (i := 5) (v := ?_) rfl (by kernel_rfl) (by kernel_rfl) (by kernel_rfl) (fun _ _ _ h => h) (Or.inl ⟨by kernel_rfl, ?_⟩) (by assumption) ?_
        rotate_left
        · intro w'' hSw; (try dsimp only at hSw); simp only [zqa, zqb, zqc]; (go_simp <;> with_reducible rfl)
        try simp only [Act.put, zqd, zqe, zqf, zqa, zqb, zqc]
        refine wpAnyH_ready (rs := [6]) (by kernel_rfl) (by simp) ?_
        refine AllReadyH.cons rfl (fun K hK => ?_) AllReadyH.nil
        first | (with_reducible refine iteYes ?hcx ?htx; case hcx => kernel_rfl) | rw [if_pos (by rfl)]
        simp only [zqa, zqb, zqc]
        go_simp
        (go_at_call 112; refine (out1_calls e1 m _).mono ?_; rintro e w1 ⟨rfl, k1⟩)
        try go_wp2_with fail
        refine hK.out _ _ ?_ (fun hHeld2 => ?_)
        · (try dsimp only); exact ⟨hHeld1.1.trans k1, kept_cell k1 hHeld1.2.1, kept_cell k1 hHeld1.2.2.1, kept_cell k1 hHeld1.2.2.2.1, kept_cell k1 hHeld1.2.2.2.2.1, kept_cell k1 hHeld1.2.2.2.2.2.1, kept_cell k1 hHeld1.2.2.2.2.2.2.1, kept_cell k1 hHeld1.2.2.2.2.2.2.2.1, kept_cell k1 hHeld1.2.2.2.2.2.2.2.2⟩
        clear hK K hHeld1
        try simp only [Act.put, zqd, zqe, zqf, zqa, zqb, zqc]
        refine wpAnyH_take (i := 7) (v := ?_) rfl (by kernel_rfl) (by kernel_rfl) (by kernel_rfl) (fun _ _ _ h => h) (Or.inl ⟨by kernel_rfl, ?_⟩) (by assumption) ?_
        rotate_left
        · intro w'' hSw; (try dsimp only at hSw); simp only [zqa, zqb, zqc]; (go_simp <;> with_reducible rfl)
        try simp only [Act.put, zqd, zqe, zqf, zqa, zqb, zqc]
        refine wpAnyH_done (by kernel_rfl) ?_ _
        have HB1 := HB0.out.step hHeld2.1
        obtain ⟨kk, c0, c1, c2, c3, m0, m1, m2, m3⟩ := hHeld2
        have HB2 : Aside (Best (w.heap.size + 1) w.heap.size m w1) := HB1
        obtain ⟨_, _, _, _, f0, f1, f2, f3, _⟩ := HB1
        go_wp2
        go_roundg 4
        case measure => omega
        case rel => exact ⟨kept_set4 (hk.trans kk) (by omega) _ _ _ _, Or.inr (Or.inl ⟨rfl, by omega, Best.eq (b' := (pickE e0 e1 e2 e3 e4 e5 1)) (or_lt' (q := (pickE e0 e1 e2 e3 e4 e5 0)) hm.out HL.out) (HB2.out.put hn e1)⟩)⟩
      · have hd := cmpI_ge h
        have HL : Aside (¬ e1.d < m.d) := h
        clear h
        go_wp2
        refine wp_region_held_drew (S := (fun w' => Kept wr w' ∧ w'.cell? ⟨b, 4, none⟩ = some (.int .i64 e1.x) ∧ w'.cell? ⟨b, 5, none⟩ = some (.int .i64 e1.y) ∧ w'.cell? ⟨b, 6, none⟩ = some (.int .i64 e1.z) ∧ w'.cell? ⟨b, 7, none⟩ = some (.int .i64 e1.d) ∧ w'.cell? ⟨w.heap.size + 1, 0, none⟩ = some (.int .i64 m.x) ∧ w'.cell? ⟨w.heap.size + 1, 1, none⟩ = some (.int .i64 m.y) ∧ w'.cell? ⟨w.heap.size + 1, 2, none⟩ = some (.int .i64 m.z) ∧ w'.cell? ⟨w.heap.size + 1, 3, none⟩ = some (.int .i64 m.d))) (by kernel_rfl) ?_ (fun hHeld1 => ?_)
        · (try dsimp only); exact ⟨(Kept.refl _).drew, kept_cell (Kept.refl _).drew c0, kept_cell (Kept.refl _).drew c1, kept_cell (Kept.refl _).drew c2, kept_cell (Kept.refl _).drew c3, kept_cell (Kept.refl _).drew m0, kept_cell (Kept.refl _).drew m1, kept_cell (Kept.refl _).drew m2, kept_cell (Kept.refl _).drew m3⟩
        refine wpAnyH_take (i := 0) (v := ?_) rfl (by kernel_rfl) (by kernel_rfl) (by kernel_rfl) (fun _ _ _ h => h) (Or.inl ⟨by kernel_rfl, ?_⟩) (by assumption) ?_
        rotate_left
        · intro w'' hSw; (try dsimp only at hSw); simp only [zqa, zqb, zqc]; (go_simp <;> with_reducible rfl)
        try simp only [Act.put, zqd, zqe, zqf, zqa, zqb, zqc]
        refine wpAnyH_take (i := 1) (v := ?_) rfl (by kernel_rfl) (by kernel_rfl) (by kernel_rfl) (fun _ _ _ h => h) (Or.inl ⟨by kernel_rfl, ?_⟩) (by assumption) ?_
        rotate_left
        · intro w'' hSw; (try dsimp only at hSw); simp only [zqa, zqb, zqc]; (go_simp <;> with_reducible rfl)
        try simp only [Act.put, zqd, zqe, zqf, zqa, zqb, zqc]
        refine wpAnyH_take (i := 2) (v := ?_) rfl (by kernel_rfl) (by kernel_rfl) (by kernel_rfl) (fun _ _ _ h => h) (Or.inl ⟨by kernel_rfl, ?_⟩) (by assumption) ?_
        rotate_left
        · intro w'' hSw; (try dsimp only at hSw); simp only [zqa, zqb, zqc]; (go_simp <;> with_reducible rfl)
        try simp only [Act.put, zqd, zqe, zqf, zqa, zqb, zqc]
        refine wpAnyH_take (i := 3) (v := ?_) rfl (by kernel_rfl) (by kernel_rfl) (by kernel_rfl) (fun _ _ _ h => h) (Or.inl ⟨by kernel_rfl, ?_⟩) (by assumption) ?_
        rotate_left
        · intro w'' hSw; (try dsimp only at hSw); simp only [zqa, zqb, zqc]; (go_simp <;> with_reducible rfl)
        try simp only [Act.put, zqd, zqe, zqf, zqa, zqb, zqc]
        refine wpAnyH_take (i := 4) (v := ?_) rfl (by kernel_rfl) (by kernel_rfl) (by kernel_rfl) (fun _ _ _ h => h) (Or.inl ⟨by kernel_rfl, ?_⟩) (by assumption) ?_
        rotate_left
        · intro w'' hSw; (try dsimp only at hSw); simp only [zqa, zqb, zqc]; (go_simp <;> with_reducible rfl)
        try simp only [Act.put, zqd, zqe, zqf, zqa, zqb, zqc]
        refine wpAnyH_take (i := 5) (v := ?_) rfl (by kernel_rfl) (by kernel_rfl) (by kernel_rfl) (fun _ _ _ h => h) (Or.inl ⟨by kernel_rfl, ?_⟩) (by assumption) ?_
        rotate_left
        · intro w'' hSw; (try dsimp only at hSw); simp only [zqa, zqb, zqc]; (go_simp <;> with_reducible rfl)
        try simp only [Act.put, zqd, zqe, zqf, zqa, zqb, zqc]
        refine wpAnyH_ready (rs := [6]) (by kernel_rfl) (by simp) ?_
        refine AllReadyH.cons rfl (fun K hK => ?_) AllReadyH.nil
        first | (with_reducible refine iteYes ?hcx ?htx; case hcx => kernel_rfl) | rw [if_pos (by rfl)]
        simp only [zqa, zqb, zqc]
        go_simp
        (go_at_call 112; refine (out1_calls e1 m _).mono ?_; rintro e w1 ⟨rfl, k1⟩)
        try go_wp2_with fail
        refine hK.out _ _ ?_ (fun hHeld2 => ?_)
        · (try dsimp only); exact ⟨hHeld1.1.trans k1, kept_cell k1 hHeld1.2.1, kept_cell k1 hHeld1.2.2.1, kept_cell k1 hHeld1.2.2.2.1, kept_cell k1 hHeld1.2.2.2.2.1, kept_cell k1 hHeld1.2.2.2.2.2.1, kept_cell k1 hHeld1.2.2.2.2.2.2.1, kept_cell k1 hHeld1.2.2.2.2.2.2.2.1, kept_cell k1 hHeld1.2.2.2.2.2.2.2.2⟩
        clear hK K hHeld1
        try simp only [Act.put, zqd, zqe, zqf, zqa, zqb, zqc]
        refine wpAnyH_take (i := 7) (v := ?_) rfl (by kernel_rfl) (by kernel_rfl) (by kernel_rfl) (fun _ _ _ h => h) (Or.inl ⟨by kernel_rfl, ?_⟩) (by assumption) ?_
        rotate_left
        · intro w'' hSw; (try dsimp only at hSw); simp only [zqa, zqb, zqc]; (go_simp <;> with_reducible rfl)
        try simp only [Act.put, zqd, zqe, zqf, zqa, zqb, zqc]
        refine wpAnyH_done (by kernel_rfl) ?_ _
        have HB1 := HB0.out.step hHeld2.1
        have kk := hHeld2.1
        clear hHeld2
        go_wp2
        go_roundg 4
        case measure => omega
        case rel => exact ⟨hk.trans kk, Or.inr (Or.inl ⟨rfl, by omega, Best.eq (b' := (pickE e0 e1 e2 e3 e4 e5 1)) (or_ge' (q := (pickE e0 e1 e2 e3 e4 e5 0)) hm.out (by have := HL.out; omega)) HB1⟩)⟩
    · obtain ⟨m, hm0⟩ : ∃ m, m = (pickE e0 e1 e2 e3 e4 e5 1) := ⟨_, rfl⟩
      rw [← hm0] at HB
      have hm : Aside (m = (pickE e0 e1 e2 e3 e4 e5 1)) := hm0
      clear hm0
      obtain ⟨_, _, _, _, _, _, _, _, c0, c1, c2, c3, _⟩ := HS.out.step hk
      have HB0 : Aside (Best (w.heap.size + 1) w.heap.size m wr) := HB
      obtain ⟨m0, m1, m2, m3, _⟩ := HB
      by_cases h : e2.d < m.d
      · have hd := cmpI_lt h
        have HL : Aside (e2.d < m.d) := h
        clear h
        go_wp2
        refine wp_region_held_drew (S := (fun w' => Kept wr w' ∧ w'.cell? ⟨b, 8, none⟩ = some (.int .i64 e2.x) ∧ w'.cell? ⟨b, 9, none⟩ = some (.int .i64 e2.y) ∧ w'.cell? ⟨b, 10, none⟩ = some (.int .i64 e2.z) ∧ w'.cell? ⟨b, 11, none⟩ = some (.int .i64 e2.d) ∧ w'.cell? ⟨w.heap.size + 1, 0, none⟩ = some (.int .i64 m.x) ∧ w'.cell? ⟨w.heap.size + 1, 1, none⟩ = some (.int .i64 m.y) ∧ w'.cell? ⟨w.heap.size + 1, 2, none⟩ = some (.int .i64 m.z) ∧ w'.cell? ⟨w.heap.size + 1, 3, none⟩ = some (.int .i64 m.d))) (by kernel_rfl) ?_ (fun hHeld1 => ?_)
        · (try dsimp only); exact ⟨(Kept.refl _).drew, kept_cell (Kept.refl _).drew c0, kept_cell (Kept.refl _).drew c1, kept_cell (Kept.refl _).drew c2, kept_cell (Kept.refl _).drew c3, kept_cell (Kept.refl _).drew m0, kept_cell (Kept.refl _).drew m1, kept_cell (Kept.refl _).drew m2, kept_cell (Kept.refl _).drew m3⟩
        refine wpAnyH_take (i := 0) (v := ?_) rfl (by kernel_rfl) (by kernel_rfl) (by kernel_rfl) (fun _ _ _ h => h) (Or.inl ⟨by kernel_rfl, ?_⟩) (by assumption) ?_
        rotate_left
        · intro w'' hSw; (try dsimp only at hSw); simp only [zqa, zqb, zqc]; (go_simp <;> with_reducible rfl)
        try simp only [Act.put, zqd, zqe, zqf, zqa, zqb, zqc]
        refine wpAnyH_take (i := 1) (v := ?_) rfl (by kernel_rfl) (by kernel_rfl) (by kernel_rfl) (fun _ _ _ h => h) (Or.inl ⟨by kernel_rfl, ?_⟩) (by assumption) ?_
        rotate_left
        · intro w'' hSw; (try dsimp only at hSw); simp only [zqa, zqb, zqc]; (go_simp <;> with_reducible rfl)
        try simp only [Act.put, zqd, zqe, zqf, zqa, zqb, zqc]
        refine wpAnyH_take (i := 2) (v := ?_) rfl (by kernel_rfl) (by kernel_rfl) (by kernel_rfl) (fun _ _ _ h => h) (Or.inl ⟨by kernel_rfl, ?_⟩) (by assumption) ?_
        rotate_left
        · intro w'' hSw; (try dsimp only at hSw); simp only [zqa, zqb, zqc]; (go_simp <;> with_reducible rfl)
        try simp only [Act.put, zqd, zqe, zqf, zqa, zqb, zqc]
        refine wpAnyH_take (i := 3) (v := ?_) rfl (by kernel_rfl) (by kernel_rfl) (by kernel_rfl) (fun _ _ _ h => h) (Or.inl ⟨by kernel_rfl, ?_⟩) (by assumption) ?_
        rotate_left
        · intro w'' hSw; (try dsimp only at hSw); simp only [zqa, zqb, zqc]; (go_simp <;> with_reducible rfl)
        try simp only [Act.put, zqd, zqe, zqf, zqa, zqb, zqc]
        refine wpAnyH_take (i := 4) (v := ?_) rfl (by kernel_rfl) (by kernel_rfl) (by kernel_rfl) (fun _ _ _ h => h) (Or.inl ⟨by kernel_rfl, ?_⟩) (by assumption) ?_
        rotate_left
        · intro w'' hSw; (try dsimp only at hSw); simp only [zqa, zqb, zqc]; (go_simp <;> with_reducible rfl)
        try simp only [Act.put, zqd, zqe, zqf, zqa, zqb, zqc]
        refine wpAnyH_take (i := 5) (v := ?_) rfl (by kernel_rfl) (by kernel_rfl) (by kernel_rfl) (fun _ _ _ h => h) (Or.inl ⟨by kernel_rfl, ?_⟩) (by assumption) ?_
        rotate_left
        · intro w'' hSw; (try dsimp only at hSw); simp only [zqa, zqb, zqc]; (go_simp <;> with_reducible rfl)
        try simp only [Act.put, zqd, zqe, zqf, zqa, zqb, zqc]
        refine wpAnyH_ready (rs := [6]) (by kernel_rfl) (by simp) ?_
        refine AllReadyH.cons rfl (fun K hK => ?_) AllReadyH.nil
        first | (with_reducible refine iteYes ?hcx ?htx; case hcx => kernel_rfl) | rw [if_pos (by rfl)]
        simp only [zqa, zqb, zqc]
        go_simp
        (go_at_call 112; refine (out1_calls e2 m _).mono ?_; rintro e w1 ⟨rfl, k1⟩)
        try go_wp2_with fail
        refine hK.out _ _ ?_ (fun hHeld2 => ?_)
        · (try dsimp only); exact ⟨hHeld1.1.trans k1, kept_cell k1 hHeld1.2.1, kept_cell k1 hHeld1.2.2.1, kept_cell k1 hHeld1.2.2.2.1, kept_cell k1 hHeld1.2.2.2.2.1, kept_cell k1 hHeld1.2.2.2.2.2.1, kept_cell k1 hHeld1.2.2.2.2.2.2.1, kept_cell k1 hHeld1.2.2.2.2.2.2.2.1, kept_cell k1 hHeld1.2.2.2.2.2.2.2.2⟩
        clear hK K hHeld1
        try simp only [Act.put, zqd, zqe, zqf, zqa, zqb, zqc]
        refine wpAnyH_take (i := 7) (v := ?_) rfl (by kernel_rfl) (by kernel_rfl) (by kernel_rfl) (fun _ _ _ h => h) (Or.inl ⟨by kernel_rfl, ?_⟩) (by assumption) ?_
        rotate_left
        · intro w'' hSw; (try dsimp only at hSw); simp only [zqa, zqb, zqc]; (go_simp <;> with_reducible rfl)
        try simp only [Act.put, zqd, zqe, zqf, zqa, zqb, zqc]
        refine wpAnyH_done (by kernel_rfl) ?_ _
        have HB1 := HB0.out.step hHeld2.1
        obtain ⟨kk, c0, c1, c2, c3, m0, m1, m2, m3⟩ := hHeld2
        have HB2 : Aside (Best (w.heap.size + 1) w.heap.size m w1) := HB1
        obtain ⟨_, _, _, _, f0, f1, f2, f3, _⟩ := HB1
        go_wp2
        go_roundg 3
        case measure => omega
        case rel => exact ⟨kept_set4 (hk.trans kk) (by omega) _ _ _ _, Or.inr (Or.inr (Or.inl ⟨rfl, by omega, Best.eq (b' := (pickE e0 e1 e2 e3 e4 e5 2)) (or_lt' (q := (pickE e0 e1 e2 e3 e4 e5 1)) hm.out HL.out) (HB2.out.put hn e2)⟩))⟩
      · have hd := cmpI_ge h
        have HL : Aside (¬ e2.d < m.d) := h
        clear h
        go_wp2
        refine wp_region_held_drew (S := (fun w' => Kept wr w' ∧ w'.cell? ⟨b, 8, none⟩ = some (.int .i64 e2.x) ∧ w'.cell? ⟨b, 9, none⟩ = some (.int .i64 e2.y) ∧ w'.cell? ⟨b, 10, none⟩ = some (.int .i64 e2.z) ∧ w'.cell? ⟨b, 11, none⟩ = some (.int .i64 e2.d) ∧ w'.cell? ⟨w.heap.size + 1, 0, none⟩ = some (.int .i64 m.x) ∧ w'.cell? ⟨w.heap.size + 1, 1, none⟩ = some (.int .i64 m.y) ∧ w'.cell? ⟨w.heap.size + 1, 2, none⟩ = some (.int .i64 m.z) ∧ w'.cell? ⟨w.heap.size + 1, 3, none⟩ = some (.int .i64 m.d))) (by kernel_rfl) ?_ (fun hHeld1 => ?_)
        · (try dsimp only); exact ⟨(Kept.refl _).drew, kept_cell (Kept.refl _).drew c0, kept_cell (Kept.refl _).drew c1, kept_cell (Kept.refl _).drew c2, kept_cell (Kept.refl _).drew c3, kept_cell (Kept.refl _).drew m0, kept_cell (Kept.refl _).drew m1, kept_cell (Kept.refl _).drew m2, kept_cell (Kept.refl _).drew m3⟩
        refine wpAnyH_take (i := 0) (v := ?_) rfl (by kernel_rfl) (by kernel_rfl) (by kernel_rfl) (fun _ _ _ h => h) (Or.inl ⟨by kernel_rfl, ?_⟩) (by assumption) ?_
        rotate_left
        · intro w'' hSw; (try dsimp only at hSw); simp only [zqa, zqb, zqc]; (go_simp <;> with_reducible rfl)
        try simp only [Act.put, zqd, zqe, zqf, zqa, zqb, zqc]
        refine wpAnyH_take (i := 1) (v := ?_) rfl (by kernel_rfl) (by kernel_rfl) (by kernel_rfl) (fun _ _ _ h => h) (Or.inl ⟨by kernel_rfl, ?_⟩) (by assumption) ?_
        rotate_left
        · intro w'' hSw; (try dsimp only at hSw); simp only [zqa, zqb, zqc]; (go_simp <;> with_reducible rfl)
        try simp only [Act.put, zqd, zqe, zqf, zqa, zqb, zqc]
        refine wpAnyH_take (i := 2) (v := ?_) rfl (by kernel_rfl) (by kernel_rfl) (by kernel_rfl) (fun _ _ _ h => h) (Or.inl ⟨by kernel_rfl, ?_⟩) (by assumption) ?_
        rotate_left
        · intro w'' hSw; (try dsimp only at hSw); simp only [zqa, zqb, zqc]; (go_simp <;> with_reducible rfl)
        try simp only [Act.put, zqd, zqe, zqf, zqa, zqb, zqc]
        refine wpAnyH_take (i := 3) (v := ?_) rfl (by kernel_rfl) (by kernel_rfl) (by kernel_rfl) (fun _ _ _ h => h) (Or.inl ⟨by kernel_rfl, ?_⟩) (by assumption) ?_
        rotate_left
        · intro w'' hSw; (try dsimp only at hSw); simp only [zqa, zqb, zqc]; (go_simp <;> with_reducible rfl)
        try simp only [Act.put, zqd, zqe, zqf, zqa, zqb, zqc]
        refine wpAnyH_take (i := 4) (v := ?_) rfl (by kernel_rfl) (by kernel_rfl) (by kernel_rfl) (fun _ _ _ h => h) (Or.inl ⟨by kernel_rfl, ?_⟩) (by assumption) ?_
        rotate_left
        · intro w'' hSw; (try dsimp only at hSw); simp only [zqa, zqb, zqc]; (go_simp <;> with_reducible rfl)
        try simp only [Act.put, zqd, zqe, zqf, zqa, zqb, zqc]
        refine wpAnyH_take (i := 5) (v := ?_) rfl (by kernel_rfl) (by kernel_rfl) (by kernel_rfl) (fun _ _ _ h => h) (Or.inl ⟨by kernel_rfl, ?_⟩) (by assumption) ?_
        rotate_left
        · intro w'' hSw; (try dsimp only at hSw); simp only [zqa, zqb, zqc]; (go_simp <;> with_reducible rfl)
        try simp only [Act.put, zqd, zqe, zqf, zqa, zqb, zqc]
        refine wpAnyH_ready (rs := [6]) (by kernel_rfl) (by simp) ?_
        refine AllReadyH.cons rfl (fun K hK => ?_) AllReadyH.nil
        first | (with_reducible refine iteYes ?hcx ?htx; case hcx => kernel_rfl) | rw [if_pos (by rfl)]
        simp only [zqa, zqb, zqc]
        go_simp
        (go_at_call 112; refine (out1_calls e2 m _).mono ?_; rintro e w1 ⟨rfl, k1⟩)
        try go_wp2_with fail
        refine hK.out _ _ ?_ (fun hHeld2 => ?_)
        · (try dsimp only); exact ⟨hHeld1.1.trans k1, kept_cell k1 hHeld1.2.1, kept_cell k1 hHeld1.2.2.1, kept_cell k1 hHeld1.2.2.2.1, kept_cell k1 hHeld1.2.2.2.2.1, kept_cell k1 hHeld1.2.2.2.2.2.1, kept_cell k1 hHeld1.2.2.2.2.2.2.1, kept_cell k1 hHeld1.2.2.2.2.2.2.2.1, kept_cell k1 hHeld1.2.2.2.2.2.2.2.2⟩
        clear hK K hHeld1
        try simp only [Act.put, zqd, zqe, zqf, zqa, zqb, zqc]
        refine wpAnyH_take (i := 7) (v := ?_) rfl (by kernel_rfl) (by kernel_rfl) (by kernel_rfl) (fun _ _ _ h => h) (Or.inl ⟨by kernel_rfl, ?_⟩) (by assumption) ?_
        rotate_left
        · intro w'' hSw; (try dsimp only at hSw); simp only [zqa, zqb, zqc]; (go_simp <;> with_reducible rfl)
        try simp only [Act.put, zqd, zqe, zqf, zqa, zqb, zqc]
        refine wpAnyH_done (by kernel_rfl) ?_ _
        have HB1 := HB0.out.step hHeld2.1
        have kk := hHeld2.1
        clear hHeld2
        go_wp2
        go_roundg 3
        case measure => omega
        case rel => exact ⟨hk.trans kk, Or.inr (Or.inr (Or.inl ⟨rfl, by omega, Best.eq (b' := (pickE e0 e1 e2 e3 e4 e5 2)) (or_ge' (q := (pickE e0 e1 e2 e3 e4 e5 1)) hm.out (by have := HL.out; omega)) HB1⟩))⟩
    · obtain ⟨m, hm0⟩ : ∃ m, m = (pickE e0 e1 e2 e3 e4 e5 2) := ⟨_, rfl⟩
      rw [← hm0] at HB
      have hm : Aside (m = (pickE e0 e1 e2 e3 e4 e5 2)) := hm0
      clear hm0
      obtain ⟨_, _, _, _, _, _, _, _, _, _, _, _, c0, c1, c2, c3, _⟩ := HS.out.step hk
      have HB0 : Aside (Best (w.heap.size + 1) w.heap.size m wr) := HB
      obtain ⟨m0, m1, m2, m3, _⟩ := HB
      by_cases h : e3.d < m.d
      · have hd := cmpI_lt h
        have HL : Aside (e3.d < m.d) := h
        clear h
        go_wp2
        refine wp_region_held_drew (S := (fun w' => Kept wr w' ∧ w'.cell? ⟨b, 12, none⟩ = some (.int .i64 e3.x) ∧ w'.cell? ⟨b, 13, none⟩ = some (.int .i64 e3.y) ∧ w'.cell? ⟨b, 14, none⟩ = some (.int .i64 e3.z) ∧ w'.cell? ⟨b, 15, none⟩ = some (.int .i64 e3.d) ∧ w'.cell? ⟨w.heap.size + 1, 0, none⟩ = some (.int .i64 m.x) ∧ w'.cell? ⟨w.heap.size + 1, 1, none⟩ = some (.int .i64 m.y) ∧ w'.cell? ⟨w.heap.size + 1, 2, none⟩ = some (.int .i64 m.z) ∧ w'.cell? ⟨w.heap.size + 1, 3, none⟩ = some (.int .i64 m.d))) (by kernel_rfl) ?_ (fun hHeld1 => ?_)
        · (try dsimp only); exact ⟨(Kept.refl _).drew, kept_cell (Kept.refl _).drew c0, kept_cell (Kept.refl _).drew c1, kept_cell (Kept.refl _).drew c2, kept_cell (Kept.refl _).drew c3, kept_cell (Kept.refl _).drew m0, kept_cell (Kept.refl _).drew m1, kept_cell (Kept.refl _).drew m2, kept_cell (Kept.refl _).drew m3⟩
        refine wpAnyH_take (i := 0) (v := ?_) rfl (by kernel_rfl) (by kernel_rfl) (by kernel_rfl) (fun _ _ _ h => h) (Or.inl ⟨by kernel_rfl, ?_⟩) (by assumption) ?_
        rotate_left
        · intro w'' hSw; (try dsimp only at hSw); simp only [zqa, zqb, zqc]; (go_simp <;> with_reducible rfl)
        try simp only [Act.put, zqd, zqe, zqf, zqa, zqb, zqc]
        refine wpAnyH_take (i := 1) (v := ?_) rfl (by kernel_rfl) (by kernel_rfl) (by kernel_rfl) (fun _ _ _ h => h) (Or.inl ⟨by kernel_rfl, ?_⟩) (by assumption) ?_
        rotate_left
        · intro w'' hSw; (try dsimp only at hSw); simp only [zqa, zqb, zqc]; (go_simp <;> with_reducible rfl)
        try simp only [Act.put, zqd, zqe, zqf, zqa, zqb, zqc]
        refine wpAnyH_take (i := 2) (v := ?_) rfl (by kernel_rfl) (by kernel_rfl) (by kernel_rfl) (fun _ _ _ h => h) (Or.inl ⟨by kernel_rfl, ?_⟩) (by assumption) ?_
        rotate_left
        · intro w'' hSw; (try dsimp only at hSw); simp only [zqa, zqb, zqc]; (go_simp <;> with_reducible rfl)
        try simp only [Act.put, zqd, zqe, zqf, zqa, zqb, zqc]
        refine wpAnyH_take (i := 3) (v := ?_) rfl (by kernel_rfl) (by kernel_rfl) (by kernel_rfl) (fun _ _ _ h => h) (Or.inl ⟨by kernel_rfl, ?_⟩) (by assumption) ?_
        rotate_left
        · intro w'' hSw; (try dsimp only at hSw); simp only [zqa, zqb, zqc]; (go_simp <;> with_reducible rfl)
        try simp only [Act.put, zqd, zqe, zqf, zqa, zqb, zqc]
        refine wpAnyH_take (i := 4) (v := ?_) rfl (by kernel_rfl) (by kernel_rfl) (by kernel_rfl) (fun _ _ _ h => h) (Or.inl ⟨by kernel_rfl, ?_⟩) (by assumption) ?_
        rotate_left
        · intro w'' hSw; (try dsimp only at hSw); simp only [zqa, zqb, zqc]; (go_simp <;> with_reducible rfl)
        try simp only [Act.put, zqd, zqe, zqf, zqa, zqb, zqc]
        refine wpAnyH_take (i := 5) (v := ?_) rfl (by kernel_rfl) (by kernel_rfl) (by kernel_rfl) (fun _ _ _ h => h) (Or.inl ⟨by kernel_rfl, ?_⟩) (by assumption) ?_
        rotate_left
        · intro w'' hSw; (try dsimp only at hSw); simp only [zqa, zqb, zqc]; (go_simp <;> with_reducible rfl)
        try simp only [Act.put, zqd, zqe, zqf, zqa, zqb, zqc]
        refine wpAnyH_ready (rs := [6]) (by kernel_rfl) (by simp) ?_
        refine AllReadyH.cons rfl (fun K hK => ?_) AllReadyH.nil
        first | (with_reducible refine iteYes ?hcx ?htx; case hcx => kernel_rfl) | rw [if_pos (by rfl)]
        simp only [zqa, zqb, zqc]
        go_simp
        (go_at_call 112; refine (out1_calls e3 m _).mono ?_; rintro e w1 ⟨rfl, k1⟩)
        try go_wp2_with fail
        refine hK.out _ _ ?_ (fun hHeld2 => ?_)
        · (try dsimp only); exact ⟨hHeld1.1.trans k1, kept_cell k1 hHeld1.2.1, kept_cell k1 hHeld1.2.2.1, kept_cell k1 hHeld1.2.2.2.1, kept_cell k1 hHeld1.2.2.2.2.1, kept_cell k1 hHeld1.2.2.2.2.2.1, kept_cell k1 hHeld1.2.2.2.2.2.2.1, kept_cell k1 hHeld1.2.2.2.2.2.2.2.1, kept_cell k1 hHeld1.2.2.2.2.2.2.2.2⟩
        clear hK K hHeld1
        try simp only [Act.put, zqd, zqe, zqf, zqa, zqb, zqc]
        refine wpAnyH_take (i := 7) (v := ?_) rfl (by kernel_rfl) (by kernel_rfl) (by kernel_rfl) (fun _ _ _ h => h) (Or.inl ⟨by kernel_rfl, ?_⟩) (by assumption) ?_
        rotate_left
        · intro w'' hSw; (try dsimp only at hSw); simp only [zqa, zqb, zqc]; (go_simp <;> with_reducible rfl)
        try simp only [Act.put, zqd, zqe, zqf, zqa, zqb, zqc]
        refine wpAnyH_done (by kernel_rfl) ?_ _
        have HB1 := HB0.out.step hHeld2.1
        obtain ⟨kk, c0, c1, c2, c3, m0, m1, m2, m3⟩ := hHeld2
        have HB2 : Aside (Best (w.heap.size + 1) w.heap.size m w1) := HB1
        obtain ⟨_, _, _, _, f0, f1, f2, f3, _⟩ := HB1
        go_wp2
        go_roundg 2
        case measure => omega
        case rel => exact ⟨kept_set4 (hk.trans kk) (by omega) _ _ _ _, Or.inr (Or.inr (Or.inr (Or.inl ⟨rfl, by omega, Best.eq (b' := (pickE e0 e1 e2 e3 e4 e5 3)) (or_lt' (q := (pickE e0 e1 e2 e3 e4 e5 2)) hm.out HL.out) (HB2.out.put hn e3)⟩)))⟩
      · have hd := cmpI_ge h
        have HL : Aside (¬ e3.d < m.d) := h
        clear h
        go_wp2
        refine wp_region_held_drew (S := (fun w' => Kept wr w' ∧ w'.cell? ⟨b, 12, none⟩ = some (.int .i64 e3.x) ∧ w'.cell? ⟨b, 13, none⟩ = some (.int .i64 e3.y) ∧ w'.cell? ⟨b, 14, none⟩ = some (.int .i64 e3.z) ∧ w'.cell? ⟨b, 15, none⟩ = some (.int .i64 e3.d) ∧ w'.cell? ⟨w.heap.size + 1, 0, none⟩ = some (.int .i64 m.x) ∧ w'.cell? ⟨w.heap.size + 1, 1, none⟩ = some (.int .i64 m.y) ∧ w'.cell? ⟨w.heap.size + 1, 2, none⟩ = some (.int .i64 m.z) ∧ w'.cell? ⟨w.heap.size + 1, 3, none⟩ = some (.int .i64 m.d))) (by kernel_rfl) ?_ (fun hHeld1 => ?_)
        · (try dsimp only); exact ⟨(Kept.refl _).drew, kept_cell (Kept.refl _).drew c0, kept_cell (Kept.refl _).drew c1, kept_cell (Kept.refl _).drew c2, kept_cell (Kept.refl _).drew c3, kept_cell (Kept.refl _).drew m0, kept_cell (Kept.refl _).drew m1, kept_cell (Kept.refl _).drew m2, kept_cell (Kept.refl _).drew m3⟩
        refine wpAnyH_take (i := 0) (v := ?_) rfl (by kernel_rfl) (by kernel_rfl) (by kernel_rfl) (fun _ _ _ h => h) (Or.inl ⟨by kernel_rfl, ?_⟩) (by assumption) ?_
        rotate_left
        · intro w'' hSw; (try dsimp only at hSw); simp only [zqa, zqb, zqc]; (go_simp <;> with_reducible rfl)
        try simp only [Act.put, zqd, zqe, zqf, zqa, zqb, zqc]
        refine wpAnyH_take (i := 1) (v := ?_) rfl (by kernel_rfl) (by kernel_rfl) (by kernel_rfl) (fun _ _ _ h => h) (Or.inl ⟨by kernel_rfl, ?_⟩) (by assumption) ?_
        rotate_left
        · intro w'' hSw; (try dsimp only at hSw); simp only [zqa, zqb, zqc]; (go_simp <;> with_reducible rfl)
        try simp only [Act.put, zqd, zqe, zqf, zqa, zqb, zqc]
        refine wpAnyH_take (i := 2) (v := ?_) rfl (by kernel_rfl) (by kernel_rfl) (by kernel_rfl) (fun _ _ _ h => h) (Or.inl ⟨by kernel_rfl, ?_⟩) (by assumption) ?_
        rotate_left
        · intro w'' hSw; (try dsimp only at hSw); simp only [zqa, zqb, zqc]; (go_simp <;> with_reducible rfl)
        try simp only [Act.put, zqd, zqe, zqf, zqa, zqb, zqc]
        refine wpAnyH_take (i := 3) (v := ?_) rfl (by kernel_rfl) (by kernel_rfl) (by kernel_rfl) (fun _ _ _ h => h) (Or.inl ⟨by kernel_rfl, ?_⟩) (by assumption) ?_
        rotate_left
        · intro w'' hSw; (try dsimp only at hSw); simp only [zqa, zqb, zqc]; (go_simp <;> with_reducible rfl)
        try simp only [Act.put, zqd, zqe, zqf, zqa, zqb, zqc]
        refine wpAnyH_take (i := 4) (v := ?_) rfl (by kernel_rfl) (by kernel_rfl) (by kernel_rfl) (fun _ _ _ h => h) (Or.inl ⟨by kernel_rfl, ?_⟩) (by assumption) ?_
        rotate_left
        · intro w'' hSw; (try dsimp only at hSw); simp only [zqa, zqb, zqc]; (go_simp <;> with_reducible rfl)
        try simp only [Act.put, zqd, zqe, zqf, zqa, zqb, zqc]
        refine wpAnyH_take (i := 5) (v := ?_) rfl (by kernel_rfl) (by kernel_rfl) (by kernel_rfl) (fun _ _ _ h => h) (Or.inl ⟨by kernel_rfl, ?_⟩) (by assumption) ?_
        rotate_left
        · intro w'' hSw; (try dsimp only at hSw); simp only [zqa, zqb, zqc]; (go_simp <;> with_reducible rfl)
        try simp only [Act.put, zqd, zqe, zqf, zqa, zqb, zqc]
        refine wpAnyH_ready (rs := [6]) (by kernel_rfl) (by simp) ?_
        refine AllReadyH.cons rfl (fun K hK => ?_) AllReadyH.nil
        first | (with_reducible refine iteYes ?hcx ?htx; case hcx => kernel_rfl) | rw [if_pos (by rfl)]
        simp only [zqa, zqb, zqc]
        go_simp
        (go_at_call 112; refine (out1_calls e3 m _).mono ?_; rintro e w1 ⟨rfl, k1⟩)
        try go_wp2_with fail
        refine hK.out _ _ ?_ (fun hHeld2 => ?_)
        · (try dsimp only); exact ⟨hHeld1.1.trans k1, kept_cell k1 hHeld1.2.1, kept_cell k1 hHeld1.2.2.1, kept_cell k1 hHeld1.2.2.2.1, kept_cell k1 hHeld1.2.2.2.2.1, kept_cell k1 hHeld1.2.2.2.2.2.1, kept_cell k1 hHeld1.2.2.2.2.2.2.1, kept_cell k1 hHeld1.2.2.2.2.2.2.2.1, kept_cell k1 hHeld1.2.2.2.2.2.2.2.2⟩
        clear hK K hHeld1
        try simp only [Act.put, zqd, zqe, zqf, zqa, zqb, zqc]
        refine wpAnyH_take (i := 7) (v := ?_) rfl (by kernel_rfl) (by kernel_rfl) (by kernel_rfl) (fun _ _ _ h => h) (Or.inl ⟨by kernel_rfl, ?_⟩) (by assumption) ?_
        rotate_left
        · intro w'' hSw; (try dsimp only at hSw); simp only [zqa, zqb, zqc]; (go_simp <;> with_reducible rfl)
        try simp only [Act.put, zqd, zqe, zqf, zqa, zqb, zqc]
        refine wpAnyH_done (by kernel_rfl) ?_ _
        have HB1 := HB0.out.step hHeld2.1
        have kk := hHeld2.1
        clear hHeld2
        go_wp2
        go_roundg 2
        case measure => omega
        case rel => exact ⟨hk.trans kk, Or.inr (Or.inr (Or.inr (Or.inl ⟨rfl, by omega, Best.eq (b' := (pickE e0 e1 e2 e3 e4 e5 3)) (or_ge' (q := (pickE e0 e1 e2 e3 e4 e5 2)) hm.out (by have := HL.out; omega)) HB1⟩)))⟩
    · obtain ⟨m, hm0⟩ : ∃ m, m = (pickE e0 e1 e2 e3 e4 e5 3) := ⟨_, rfl⟩
      rw [← hm0] at HB
      have hm : Aside (m = (pickE e0 e1 e2 e3 e4 e5 3)) := hm0
      clear hm0
      obtain ⟨_, _, _, _, _, _, _, _, _, _, _, _, _, _, _, _, c0, c1, c2, c3, _⟩ := HS.out.step hk
      have HB0 : Aside (Best (w.heap.size + 1) w.heap.size m wr) := HB
      obtain ⟨m0, m1, m2, m3, _⟩ := HB
      by_cases h : e4.d < m.d
      · have hd := cmpI_lt h
        have HL : Aside (e4.d < m.d) := h
        clear h
        go_wp2
        refine wp_region_held_drew (S := (fun w' => Kept wr w' ∧ w'.cell? ⟨b, 16, none⟩ = some (.int .i64 e4.x) ∧ w'.cell? ⟨b, 17, none⟩ = some (.int .i64 e4.y) ∧ w'.cell? ⟨b, 18, none⟩ = some (.int .i64 e4.z) ∧ w'.cell? ⟨b, 19, none⟩ = some (.int .i64 e4.d) ∧ w'.cell? ⟨w.heap.size + 1, 0, none⟩ = some (.int .i64 m.x) ∧ w'.cell? ⟨w.heap.size + 1, 1, none⟩ = some (.int .i64 m.y) ∧ w'.cell? ⟨w.heap.size + 1, 2, none⟩ = some (.int .i64 m.z) ∧ w'.cell? ⟨w.heap.size + 1, 3, none⟩ = some (.int .i64 m.d))) (by kernel_rfl) ?_ (fun hHeld1 => ?_)
        · (try dsimp only); exact ⟨(Kept.refl _).drew, kept_cell (Kept.refl _).drew c0, kept_cell (Kept.refl _).drew c1, kept_cell (Kept.refl _).drew c2, kept_cell (Kept.refl _).drew c3, kept_cell (Kept.refl _).drew m0, kept_cell (Kept.refl _).drew m1, kept_cell (Kept.refl _).drew m2, kept_cell (Kept.refl _).drew m3⟩
        refine wpAnyH_take (i := 0) (v := ?_) rfl (by kernel_rfl) (by kernel_rfl) (by kernel_rfl) (fun _ _ _ h => h) (Or.inl ⟨by kernel_rfl, ?_⟩) (by assumption) ?_
        rotate_left
        · intro w'' hSw; (try dsimp only at hSw); simp only [zqa, zqb, zqc]; (go_simp <;> with_reducible rfl)
        try simp only [Act.put, zqd, zqe, zqf, zqa, zqb, zqc]
        refine wpAnyH_take (i := 1) (v := ?_) rfl (by kernel_rfl) (by kernel_rfl) (by kernel_rfl) (fun _ _ _ h => h) (Or.inl ⟨by kernel_rfl, ?_⟩) (by assumption) ?_
        rotate_left
        · intro w'' hSw; (try dsimp only at hSw); simp only [zqa, zqb, zqc]; (go_simp <;> with_reducible rfl)
        try simp only [Act.put, zqd, zqe, zqf, zqa, zqb, zqc]
        refine wpAnyH_take (i := 2) (v := ?_) rfl (by kernel_rfl) (by kernel_rfl) (by kernel_rfl) (fun _ _ _ h => h) (Or.inl ⟨by kernel_rfl, ?_⟩) (by assumption) ?_
        rotate_left
        · intro w'' hSw; (try dsimp only at hSw); simp only [zqa, zqb, zqc]; (go_simp <;> with_reducible rfl)
        try simp only [Act.put, zqd, zqe, zqf, zqa, zqb, zqc]
        refine wpAnyH_take (i := 3) (v := ?_) rfl (by kernel_rfl) (by kernel_rfl) (by kernel_rfl) (fun _ _ _ h => h) (Or.inl ⟨by kernel_rfl, ?_⟩) (by assumption) ?_
        rotate_left
        · intro w'' hSw; (try dsimp only at hSw); simp only [zqa, zqb, zqc]; (go_simp <;> with_reducible rfl)
        try simp only [Act.put, zqd, zqe, zqf, zqa, zqb, zqc]
        refine wpAnyH_take (i := 4) (v := ?_) rfl (by kernel_rfl) (by kernel_rfl) (by kernel_rfl) (fun _ _ _ h => h) (Or.inl ⟨by kernel_rfl, ?_⟩) (by assumption) ?_
        rotate_left
        · intro w'' hSw; (try dsimp only at hSw); simp only [zqa, zqb, zqc]; (go_simp <;> with_reducible rfl)
        try simp only [Act.put, zqd, zqe, zqf, zqa, zqb, zqc]
        refine wpAnyH_take (i := 5) (v := ?_) rfl (by kernel_rfl) (by kernel_rfl) (by kernel_rfl) (fun _ _ _ h => h) (Or.inl ⟨by kernel_rfl, ?_⟩) (by assumption) ?_
        rotate_left
        · intro w'' hSw; (try dsimp only at hSw); simp only [zqa, zqb, zqc]; (go_simp <;> with_reducible rfl)
        try simp only [Act.put, zqd, zqe, zqf, zqa, zqb, zqc]
        refine wpAnyH_ready (rs := [6]) (by kernel_rfl) (by simp) ?_
        refine AllReadyH.cons rfl (fun K hK => ?_) AllReadyH.nil
        first | (with_reducible refine iteYes ?hcx ?htx; case hcx => kernel_rfl) | rw [if_pos (by rfl)]
        simp only [zqa, zqb, zqc]
        go_simp
        (go_at_call 112; refine (out1_calls e4 m _).mono ?_; rintro e w1 ⟨rfl, k1⟩)
        try go_wp2_with fail
        refine hK.out _ _ ?_ (fun hHeld2 => ?_)
        · (try dsimp only); exact ⟨hHeld1.1.trans k1, kept_cell k1 hHeld1.2.1, kept_cell k1 hHeld1.2.2.1, kept_cell k1 hHeld1.2.2.2.1, kept_cell k1 hHeld1.2.2.2.2.1, kept_cell k1 hHeld1.2.2.2.2.2.1, kept_cell k1 hHeld1.2.2.2.2.2.2.1, kept_cell k1 hHeld1.2.2.2.2.2.2.2.1, kept_cell k1 hHeld1.2.2.2.2.2.2.2.2⟩
        clear hK K hHeld1
        try simp only [Act.put, zqd, zqe, zqf, zqa, zqb, zqc]
        refine wpAnyH_take (i := 7) (v := ?_) rfl (by kernel_rfl) (by kernel_rfl) (by kernel_rfl) (fun _ _ _ h => h) (Or.inl ⟨by kernel_rfl, ?_⟩) (by assumption) ?_
        rotate_left
        · intro w'' hSw; (try dsimp only at hSw); simp only [zqa, zqb, zqc]; (go_simp <;> with_reducible rfl)
        try simp only [Act.put, zqd, zqe, zqf, zqa, zqb, zqc]
        refine wpAnyH_done (by kernel_rfl) ?_ _
        have HB1 := HB0.out.step hHeld2.1
        obtain ⟨kk, c0, c1, c2, c3, m0, m1, m2, m3⟩ := hHeld2
        have HB2 : Aside (Best (w.heap.size + 1) w.heap.size m w1) := HB1
        obtain ⟨_, _, _, _, f0, f1, f2, f3, _⟩ := HB1
        go_wp2
        go_roundg 1
        case measure => omega
        case rel => exact ⟨kept_set4 (hk.trans kk) (by omega) _ _ _ _, Or.inr (Or.inr (Or.inr (Or.inr (Or.inl ⟨rfl, by omega, Best.eq (b' := (pickE e0 e1 e2 e3 e4 e5 4)) (or_lt' (q := (pickE e0 e1 e2 e3 e4 e5 3)) hm.out HL.out) (HB2.out.put hn e4)⟩))))⟩
      · have hd := cmpI_ge h
        have HL : Aside (¬ e4.d < m.d) := h
        clear h
        go_wp2
        refine wp_region_held_drew (S := (fun w' => Kept wr w' ∧ w'.cell? ⟨b, 16, none⟩ = some (.int .i64 e4.x) ∧ w'.cell? ⟨b, 17, none⟩ = some (.int .i64 e4.y) ∧ w'.cell? ⟨b, 18, none⟩ = some (.int .i64 e4.z) ∧ w'.cell? ⟨b, 19, none⟩ = some (.int .i64 e4.d) ∧ w'.cell? ⟨w.heap.size + 1, 0, none⟩ = some (.int .i64 m.x) ∧ w'.cell? ⟨w.heap.size + 1, 1, none⟩ = some (.int .i64 m.y) ∧ w'.cell? ⟨w.heap.size + 1, 2, none⟩ = some (.int .i64 m.z) ∧ w'.cell? ⟨w.heap.size + 1, 3, none⟩ = some (.int .i64 m.d))) (by kernel_rfl) ?_ (fun hHeld1 => ?_)
        · (try dsimp only); exact ⟨(Kept.refl _).drew, kept_cell (Kept.refl _).drew c0, kept_cell (Kept.refl _).drew c1, kept_cell (Kept.refl _).drew c2, kept_cell (Kept.refl _).drew c3, kept_cell (Kept.refl _).drew m0, kept_cell (Kept.refl _).drew m1, kept_cell (Kept.refl _).drew m2, kept_cell (Kept.refl _).drew m3⟩
        refine wpAnyH_take (i := 0) (v := ?_) rfl (by kernel_rfl) (by kernel_rfl) (by kernel_rfl) (fun _ _ _ h => h) (Or.inl ⟨by kernel_rfl, ?_⟩) (by assumption) ?_
        rotate_left
        · intro w'' hSw; (try dsimp only at hSw); simp only [zqa, zqb, zqc]; (go_simp <;> with_reducible rfl)
        try simp only [Act.put, zqd, zqe, zqf, zqa, zqb, zqc]
        refine wpAnyH_take (i := 1) (v := ?_) rfl (by kernel_rfl) (by kernel_rfl) (by kernel_rfl) (fun _ _ _ h => h) (Or.inl ⟨by kernel_rfl, ?_⟩) (by assumption) ?_
        rotate_left
        · intro w'' hSw; (try dsimp only at hSw); simp only [zqa, zqb, zqc]; (go_simp <;> with_reducible rfl)
        try simp only [Act.put, zqd, zqe, zqf, zqa, zqb, zqc]
        refine wpAnyH_take (i := 2) (v := ?_) rfl (by kernel_rfl) (by kernel_rfl) (by kernel_rfl) (fun _ _ _ h => h) (Or.inl ⟨by kernel_rfl, ?_⟩) (by assumption) ?_
        rotate_left
        · intro w'' hSw; (try dsimp only at hSw); simp only [zqa, zqb, zqc]; (go_simp <;> with_reducible rfl)
        try simp only [Act.put, zqd, zqe, zqf, zqa, zqb, zqc]
        refine wpAnyH_take (i := 3) (v := ?_) rfl (by kernel_rfl) (by kernel_rfl) (by kernel_rfl) (fun _ _ _ h => h) (Or.inl ⟨by kernel_rfl, ?_⟩) (by assumption) ?_
        rotate_left
        · intro w'' hSw; (try dsimp only at hSw); simp only [zqa, zqb, zqc]; (go_simp <;> with_reducible rfl)
        try simp only [Act.put, zqd, zqe, zqf, zqa, zqb, zqc]
        refine wpAnyH_take (i := 4) (v := ?_) rfl (by kernel_rfl) (by kernel_rfl) (by kernel_rfl) (fun _ _ _ h => h) (Or.inl ⟨by kernel_rfl, ?_⟩) (by assumption) ?_
        rotate_left
        · intro w'' hSw; (try dsimp only at hSw); simp only [zqa, zqb, zqc]; (go_simp <;> with_reducible rfl)
        try simp only [Act.put, zqd, zqe, zqf, zqa, zqb, zqc]
        refine wpAnyH_take (i := 5) (v := ?_) rfl (by kernel_rfl) (by kernel_rfl) (by kernel_rfl) (fun _ _ _ h => h) (Or.inl ⟨by kernel_rfl, ?_⟩) (by assumption) ?_
        rotate_left
        · intro w'' hSw; (try dsimp only at hSw); simp only [zqa, zqb, zqc]; (go_simp <;> with_reducible rfl)
        try simp only [Act.put, zqd, zqe, zqf, zqa, zqb, zqc]
        refine wpAnyH_ready (rs := [6]) (by kernel_rfl) (by simp) ?_
        refine AllReadyH.cons rfl (fun K hK => ?_) AllReadyH.nil
        first | (with_reducible refine iteYes ?hcx ?htx; case hcx => kernel_rfl) | rw [if_pos (by rfl)]
        simp only [zqa, zqb, zqc]
        go_simp
        (go_at_call 112; refine (out1_calls e4 m _).mono ?_; rintro e w1 ⟨rfl, k1⟩)
        try go_wp2_with fail
        refine hK.out _ _ ?_ (fun hHeld2 => ?_)
        · (try dsimp only); exact ⟨hHeld1.1.trans k1, kept_cell k1 hHeld1.2.1, kept_cell k1 hHeld1.2.2.1, kept_cell k1 hHeld1.2.2.2.1, kept_cell k1 hHeld1.2.2.2.2.1, kept_cell k1 hHeld1.2.2.2.2.2.1, kept_cell k1 hHeld1.2.2.2.2.2.2.1, kept_cell k1 hHeld1.2.2.2.2.2.2.2.1, kept_cell k1 hHeld1.2.2.2.2.2.2.2.2⟩
        clear hK K hHeld1
        try simp only [Act.put, zqd, zqe, zqf, zqa, zqb, zqc]
        refine wpAnyH_take (i := 7) (v := ?_) rfl (by kernel_rfl) (by kernel_rfl) (by kernel_rfl) (fun _ _ _ h => h) (Or.inl ⟨by kernel_rfl, ?_⟩) (by assumption) ?_
        rotate_left
        · intro w'' hSw; (try dsimp only at hSw); simp only [zqa, zqb, zqc]; (go_simp <;> with_reducible rfl)
        try simp only [Act.put, zqd, zqe, zqf, zqa, zqb, zqc]
        refine wpAnyH_done (by kernel_rfl) ?_ _
        have HB1 := HB0.out.step hHeld2.1
        have kk := hHeld2.1
        clear hHeld2
        go_wp2
        go_roundg 1
        case measure => omega
        case rel => exact ⟨hk.trans kk, Or.inr (Or.inr (Or.inr (Or.inr (Or.inl ⟨rfl, by omega, Best.eq (b' := (pickE e0 e1 e2 e3 e4 e5 4)) (or_ge' (q := (pickE e0 e1 e2 e3 e4 e5 3)) hm.out (by have := HL.out; omega)) HB1⟩))))⟩
    · obtain ⟨m, hm0⟩ : ∃ m, m = (pickE e0 e1 e2 e3 e4 e5 4) := ⟨_, rfl⟩
      rw [← hm0] at HB
      have hm : Aside (m = (pickE e0 e1 e2 e3 e4 e5 4)) := hm0
      clear hm0
      obtain ⟨_, _, _, _, _, _, _, _, _, _, _, _, _, _, _, _, _, _, _, _, c0, c1, c2, c3⟩ := HS.out.step hk
      have HB0 : Aside (Best (w.heap.size + 1) w.heap.size m wr) := HB
      obtain ⟨m0, m1, m2, m3, _⟩ := HB
      by_cases h : e5.d < m.d
      · have hd := cmpI_lt h
        have HL : Aside (e5.d < m.d) := h
        clear h
        go_wp2
        refine wp_region_held_drew (S := (fun w' => Kept wr w' ∧ w'.cell? ⟨b, 20, none⟩ = some (.int .i64 e5.x) ∧ w'.cell? ⟨b, 21, none⟩ = some (.int .i64 e5.y) ∧ w'.cell? ⟨b, 22, none⟩ = some (.int .i64 e5.z) ∧ w'.cell? ⟨b, 23, none⟩ = some (.int .i64 e5.d) ∧ w'.cell? ⟨w.heap.size + 1, 0, none⟩ = some (.int .i64 m.x) ∧ w'.cell? ⟨w.heap.size + 1, 1, none⟩ = some (.int .i64 m.y) ∧ w'.cell? ⟨w.heap.size + 1, 2, none⟩ = some (.int .i64 m.z) ∧ w'.cell? ⟨w.heap.size + 1, 3, none⟩ = some (.int .i64 m.d))) (by kernel_rfl) ?_ (fun hHeld1 => ?_)
        · (try dsimp only); exact ⟨(Kept.refl _).drew, kept_cell (Kept.refl _).drew c0, kept_cell (Kept.refl _).drew c1, kept_cell (Kept.refl _).drew c2, kept_cell (Kept.refl _).drew c3, kept_cell (Kept.refl _).drew m0, kept_cell (Kept.refl _).drew m1, kept_cell (Kept.refl _).drew m2, kept_cell (Kept.refl _).drew m3⟩
        refine wpAnyH_take (i := 0) (v := ?_) rfl (by kernel_rfl) (by kernel_rfl) (by kernel_rfl) (fun _ _ _ h => h) (Or.inl ⟨by kernel_rfl, ?_⟩) (by assumption) ?_
        rotate_left
        · intro w'' hSw; (try dsimp only at hSw); simp only [zqa, zqb, zqc]; (go_simp <;> with_reducible rfl)
        try simp only [Act.put, zqd, zqe, zqf, zqa, zqb, zqc]
        refine wpAnyH_take (i := 1) (v := ?_) rfl (by kernel_rfl) (by kernel_rfl) (by kernel_rfl) (fun _ _ _ h => h) (Or.inl ⟨by kernel_rfl, ?_⟩) (by assumption) ?_
        rotate_left
        · intro w'' hSw; (try dsimp only at hSw); simp only [zqa, zqb, zqc]; (go_simp <;> with_reducible rfl)
        try simp only [Act.put, zqd, zqe, zqf, zqa, zqb, zqc]
        refine wpAnyH_take (i := 2) (v := ?_) rfl (by kernel_rfl) (by kernel_rfl) (by kernel_rfl) (fun _ _ _ h => h) (Or.inl ⟨by kernel_rfl, ?_⟩) (by assumption) ?_
        rotate_left
        · intro w'' hSw; (try dsimp only at hSw); simp only [zqa, zqb, zqc]; (go_simp <;> with_reducible rfl)
        try simp only [Act.put, zqd, zqe, zqf, zqa, zqb, zqc]
        refine wpAnyH_take (i := 3) (v := ?_) rfl (by kernel_rfl) (by kernel_rfl) (by kernel_rfl) (fun _ _ _ h => h) (Or.inl ⟨by kernel_rfl, ?_⟩) (by assumption) ?_
        rotate_left
        · intro w'' hSw; (try dsimp only at hSw); simp only [zqa, zqb, zqc]; (go_simp <;> with_reducible rfl)
        try simp only [Act.put, zqd, zqe, zqf, zqa, zqb, zqc]
        refine wpAnyH_take (i := 4) (v := ?_) rfl (by kernel_rfl) (by kernel_rfl) (by kernel_rfl) (fun _ _ _ h => h) (Or.inl ⟨by kernel_rfl, ?_⟩) (by assumption) ?_
        rotate_left
        · intro w'' hSw; (try dsimp only at hSw); simp only [zqa, zqb, zqc]; (go_simp <;> with_reducible rfl)
        try simp only [Act.put, zqd, zqe, zqf, zqa, zqb, zqc]
        refine wpAnyH_take (i := 5) (v := ?_) rfl (by kernel_rfl) (by kernel_rfl) (by kernel_rfl) (fun _ _ _ h => h) (Or.inl ⟨by kernel_rfl, ?_⟩) (by assumption) ?_
        rotate_left
        · intro w'' hSw; (try dsimp only at hSw); simp only [zqa, zqb, zqc]; (go_simp <;> with_reducible rfl)
        try simp only [Act.put, zqd, zqe, zqf, zqa, zqb, zqc]
        refine wpAnyH_ready (rs := [6]) (by kernel_rfl) (by simp) ?_
        refine AllReadyH.cons rfl (fun K hK => ?_) AllReadyH.nil
        first | (with_reducible refine iteYes ?hcx ?htx; case hcx => kernel_rfl) | rw [if_pos (by rfl)]
        simp only [zqa, zqb, zqc]
        go_simp
        (go_at_call 112; refine (out1_calls e5 m _).mono ?_; rintro e w1 ⟨rfl, k1⟩)
        try go_wp2_with fail
        refine hK.out _ _ ?_ (fun hHeld2 => ?_)
        · (try dsimp only); exact ⟨hHeld1.1.trans k1, kept_cell k1 hHeld1.2.1, kept_cell k1 hHeld1.2.2.1, kept_cell k1 hHeld1.2.2.2.1, kept_cell k1 hHeld1.2.2.2.2.1, kept_cell k1 hHeld1.2.2.2.2.2.1, kept_cell k1 hHeld1.2.2.2.2.2.2.1, kept_cell k1 hHeld1.2.2.2.2.2.2.2.1, kept_cell k1 hHeld1.2.2.2.2.2.2.2.2⟩
        clear hK K hHeld1
        try simp only [Act.put, zqd, zqe, zqf, zqa, zqb, zqc]
        refine wpAnyH_take (i := 7) (v := ?_) rfl (by kernel_rfl) (by kernel_rfl) (by kernel_rfl) (fun _ _ _ h => h) (Or.inl ⟨by kernel_rfl, ?_⟩) (by assumption) ?_
        rotate_left
        · intro w'' hSw; (try dsimp only at hSw); simp only [zqa, zqb, zqc]; (go_simp <;> with_reducible rfl)
        try simp only [Act.put, zqd, zqe, zqf, zqa, zqb, zqc]
        refine wpAnyH_done (by kernel_rfl) ?_ _
        have HB1 := HB0.out.step hHeld2.1
        obtain ⟨kk, c0, c1, c2, c3, m0, m1, m2, m3⟩ := hHeld2
        have HB2 : Aside (Best (w.heap.size + 1) w.heap.size m w1) := HB1
        obtain ⟨_, _, _, _, f0, f1, f2, f3, _⟩ := HB1
        go_wp2
        go_roundg 0
        case measure => omega
        case rel => exact ⟨kept_set4 (hk.trans kk) (by omega) _ _ _ _, Or.inr (Or.inr (Or.inr (Or.inr (Or.inr (⟨rfl, by omega, Best.eq (b' := (pickE e0 e1 e2 e3 e4 e5 5)) (or_lt' (q := (pickE e0 e1 e2 e3 e4 e5 4)) hm.out HL.out) (HB2.out.put hn e5)⟩)))))⟩
      · have hd := cmpI_ge h
        have HL : Aside (¬ e5.d < m.d) := h
        clear h
        go_wp2
        refine wp_region_held_drew (S := (fun w' => Kept wr w' ∧ w'.cell? ⟨b, 20, none⟩ = some (.int .i64 e5.x) ∧ w'.cell? ⟨b, 21, none⟩ = some (.int .i64 e5.y) ∧ w'.cell? ⟨b, 22, none⟩ = some (.int .i64 e5.z) ∧ w'.cell? ⟨b, 23, none⟩ = some (.int .i64 e5.d) ∧ w'.cell? ⟨w.heap.size + 1, 0, none⟩ = some (.int .i64 m.x) ∧ w'.cell? ⟨w.heap.size + 1, 1, none⟩ = some (.int .i64 m.y) ∧ w'.cell? ⟨w.heap.size + 1, 2, none⟩ = some (.int .i64 m.z) ∧ w'.cell? ⟨w.heap.size + 1, 3, none⟩ = some (.int .i64 m.d))) (by kernel_rfl) ?_ (fun hHeld1 => ?_)
        · (try dsimp only); exact ⟨(Kept.refl _).drew, kept_cell (Kept.refl _).drew c0, kept_cell (Kept.refl _).drew c1, kept_cell (Kept.refl _).drew c2, kept_cell (Kept.refl _).drew c3, kept_cell (Kept.refl _).drew m0, kept_cell (Kept.refl _).drew m1, kept_cell (Kept.refl _).drew m2, kept_cell (Kept.refl _).drew m3⟩
        refine wpAnyH_take (i := 0) (v := ?_) rfl (by kernel_rfl) (by kernel_rfl) (by kernel_rfl) (fun _ _ _ h => h) (Or.inl ⟨by kernel_rfl, ?_⟩) (by assumption) ?_
        rotate_left
        · intro w'' hSw; (try dsimp only at hSw); simp only [zqa, zqb, zqc]; (go_simp <;> with_reducible rfl)
        try simp only [Act.put, zqd, zqe, zqf, zqa, zqb, zqc]
        refine wpAnyH_take (i := 1) (v := ?_) rfl (by kernel_rfl) (by kernel_rfl) (by kernel_rfl) (fun _ _ _ h => h) (Or.inl ⟨by kernel_rfl, ?_⟩) (by assumption) ?_
        rotate_left
        · intro w'' hSw; (try dsimp only at hSw); simp only [zqa, zqb, zqc]; (go_simp <;> with_reducible rfl)
        try simp only [Act.put, zqd, zqe, zqf, zqa, zqb, zqc]
        refine wpAnyH_take (i := 2) (v := ?_) rfl (by kernel_rfl) (by kernel_rfl) (by kernel_rfl) (fun _ _ _ h => h) (Or.inl ⟨by kernel_rfl, ?_⟩) (by assumption) ?_
        rotate_left
        · intro w'' hSw; (try dsimp only at hSw); simp only [zqa, zqb, zqc]; (go_simp <;> with_reducible rfl)
        try simp only [Act.put, zqd, zqe, zqf, zqa, zqb, zqc]
        refine wpAnyH_take (i := 3) (v := ?_) rfl (by kernel_rfl) (by kernel_rfl) (by kernel_rfl) (fun _ _ _ h => h) (Or.inl ⟨by kernel_rfl, ?_⟩) (by assumption) ?_
        rotate_left
        · intro w'' hSw; (try dsimp only at hSw); simp only [zqa, zqb, zqc]; (go_simp <;> with_reducible rfl)
        try simp only [Act.put, zqd, zqe, zqf, zqa, zqb, zqc]
        refine wpAnyH_take (i := 4) (v := ?_) rfl (by kernel_rfl) (by kernel_rfl) (by kernel_rfl) (fun _ _ _ h => h) (Or.inl ⟨by kernel_rfl, ?_⟩) (by assumption) ?_
        rotate_left
        · intro w'' hSw; (try dsimp only at hSw); simp only [zqa, zqb, zqc]; (go_simp <;> with_reducible rfl)
        try simp only [Act.put, zqd, zqe, zqf, zqa, zqb, zqc]
        refine wpAnyH_take (i := 5) (v := ?_) rfl (by kernel_rfl) (by kernel_rfl) (by kernel_rfl) (fun _ _ _ h => h) (Or.inl ⟨by kernel_rfl, ?_⟩) (by assumption) ?_
        rotate_left
        · intro w'' hSw; (try dsimp only at hSw); simp only [zqa, zqb, zqc]; (go_simp <;> with_reducible rfl)
        try simp only [Act.put, zqd, zqe, zqf, zqa, zqb, zqc]
        refine wpAnyH_ready (rs := [6]) (by kernel_rfl) (by simp) ?_
        refine AllReadyH.cons rfl (fun K hK => ?_) AllReadyH.nil
        first | (with_reducible refine iteYes ?hcx ?htx; case hcx => kernel_rfl) | rw [if_pos (by rfl)]
        simp only [zqa, zqb, zqc]
        go_simp
        (go_at_call 112; refine (out1_calls e5 m _).mono ?_; rintro e w1 ⟨rfl, k1⟩)
        try go_wp2_with fail
        refine hK.out _ _ ?_ (fun hHeld2 => ?_)
        · (try dsimp only); exact ⟨hHeld1.1.trans k1, kept_cell k1 hHeld1.2.1, kept_cell k1 hHeld1.2.2.1, kept_cell k1 hHeld1.2.2.2.1, kept_cell k1 hHeld1.2.2.2.2.1, kept_cell k1 hHeld1.2.2.2.2.2.1, kept_cell k1 hHeld1.2.2.2.2.2.2.1, kept_cell k1 hHeld1.2.2.2.2.2.2.2.1, kept_cell k1 hHeld1.2.2.2.2.2.2.2.2⟩
        clear hK K hHeld1
        try simp only [Act.put, zqd, zqe, zqf, zqa, zqb, zqc]
        refine wpAnyH_take (i := 7) (v := ?_) rfl (by kernel_rfl) (by kernel_rfl) (by kernel_rfl) (fun _ _ _ h => h) (Or.inl ⟨by kernel_rfl, ?_⟩) (by assumption) ?_
        rotate_left
        · intro w'' hSw; (try dsimp only at hSw); simp only [zqa, zqb, zqc]; (go_simp <;> with_reducible rfl)
        try simp only [Act.put, zqd, zqe, zqf, zqa, zqb, zqc]
        refine wpAnyH_done (by kernel_rfl) ?_ _
        have HB1 := HB0.out.step hHeld2.1
        have kk := hHeld2.1
        clear hHeld2
        go_wp2
        go_roundg 0
        case measure => omega
        case rel => exact ⟨hk.trans kk, Or.inr (Or.inr (Or.inr (Or.inr (Or.inr (⟨rfl, by omega, Best.eq (b' := (pickE e0 e1 e2 e3 e4 e5 5)) (or_ge' (q := (pickE e0 e1 e2 e3 e4 e5 4)) hm.out (by have := HL.out; omega)) HB1⟩)))))⟩
    · obtain ⟨m, hm0⟩ : ∃ m, m = (pickE e0 e1 e2 e3 e4 e5 5) := ⟨_, rfl⟩
      rw [← hm0] at HB
      have hm : Aside (m = (pickE e0 e1 e2 e3 e4 e5 5)) := hm0
      clear hm0
      obtain ⟨m0, m1, m2, m3, _, _, _, _, r0, r1, r2, r3, g0, g1, g2, g3⟩ := HB
      go_wp2
      obtain ⟨z0, z1, z2, z3⟩ := set4_of (v0 := .int .i64 m.x) (v1 := .int .i64 m.y) (v2 := .int .i64 m.z) (v3 := .int .i64 m.d) r0 r1 r2 r3
      exact bodyPost_ret (v := .agg #[.int .i64 (m.x), .int .i64 (m.y), .int .i64 (m.z), .int .i64 (m.d)]) (by simp [results, Tryz.results111, go_sem, z0, z1, z2, z3]) rfl ⟨by rw [hm.out], kept_set4 hk (by omega) _ _ _ _⟩
end Go.Proofs.YtbfkloclmlnahabGreat
