/- What has no mass is not moved, and who has no touch keeps speed and place: plain functions. -/
import Derived.Test.YtpegjobehdihbaaSv16
namespace Go.Proofs.Ytpegjobehdihbaa
open Go.ChangeShapes Go.WideShapes Go.ChangeAt Go.RowKit
set_option linter.unusedVariables false
set_option linter.unusedSimpArgs false

def InV (b : Bd) : Prop := (-6553600 ≤ b.vx ∧ b.vx ≤ 6553600) ∧ (-6553600 ≤ b.vy ∧ b.vy ≤ 6553600) ∧ (-6553600 ≤ b.vz ∧ b.vz ≤ 6553600)
def InA (b : Bd) : Prop := (-65536000 ≤ b.ax ∧ b.ax ≤ 65536000) ∧ (-65536000 ≤ b.ay ∧ b.ay ≤ 65536000) ∧ (-65536000 ≤ b.az ∧ b.az ≤ 65536000)
theorem mul_zero_r (a : Int) : mul a 0 = 0 := by
  unfold mul
  have : cut 0 = 0 := cut_in (by omega) (by omega)
  rw [this]; simp [this]
theorem sub_zero_r {v : Int} (h : -70368744177664 ≤ v) (k : v ≤ 70368744177664) : sub v 0 = v := by
  unfold sub
  have h0 : cut 0 = 0 := cut_in (by omega) (by omega)
  rw [h0, cut_in h k, Int.sub_zero, cut_in h k]
theorem add_zero_r {v : Int} (h : -70368744177664 ≤ v) (k : v ≤ 70368744177664) : add v 0 = v := by
  unfold add
  have h0 : cut 0 = 0 := cut_in (by omega) (by omega)
  rw [h0, cut_in h k, Int.add_zero, cut_in h k]
theorem lessV_zero {q : Bd} (h : InV q) (a b c : Int) : lessV q a b c 0 = q := by
  unfold lessV
  obtain ⟨h1, h2, h3⟩ := h
  rw [mul_zero_r, mul_zero_r, mul_zero_r, sub_zero_r (by omega) (by omega), sub_zero_r (by omega) (by omega), sub_zero_r (by omega) (by omega)]
  rfl
theorem moreV_zero {q : Bd} (h : InV q) (a b c : Int) : moreV q a b c 0 = q := by
  unfold moreV
  obtain ⟨h1, h2, h3⟩ := h
  rw [mul_zero_r, mul_zero_r, mul_zero_r, add_zero_r (by omega) (by omega), add_zero_r (by omega) (by omega), add_zero_r (by omega) (by omega)]
  rfl
theorem backX_zero {q : Bd} (h : InA q) (w : V3) : backX q w 0 = q := by
  unfold backX
  obtain ⟨h1, h2, h3⟩ := h
  rw [mul_zero_r, mul_zero_r, mul_zero_r, sub_zero_r (by omega) (by omega), sub_zero_r (by omega) (by omega), sub_zero_r (by omega) (by omega), cl_in (by omega) (by omega), cl_in (by omega) (by omega), cl_in (by omega) (by omega)]
  rfl
theorem forthX_zero {q : Bd} (h : InA q) (w : V3) : forthX q w 0 = q := by
  unfold forthX
  obtain ⟨h1, h2, h3⟩ := h
  rw [mul_zero_r, mul_zero_r, mul_zero_r, add_zero_r (by omega) (by omega), add_zero_r (by omega) (by omega), add_zero_r (by omega) (by omega), cl_in (by omega) (by omega), cl_in (by omega) (by omega), cl_in (by omega) (by omega)]
  rfl
theorem giveX_still (B : Nat → Bd) (i k q : Nat) (x y a b c j : Int) (hx : q = i → x = 0) (hy : q = k → y = 0) (h : InV (B q)) : giveX B i k x y a b c j q = B q := by
  have e1 : upd B i (lessV (B i) a b c (mul j x)) q = B q := by
    unfold upd
    by_cases e : q = i
    · subst e; rw [if_pos rfl, hx rfl, mul_zero_r, lessV_zero h]
    · rw [if_neg e]
  show upd (upd B i (lessV (B i) a b c (mul j x))) k (moreV (upd B i (lessV (B i) a b c (mul j x)) k) a b c (mul j y)) q = B q
  by_cases e : q = k
  · subst e
    rw [e1, hy rfl, mul_zero_r, moreV_zero h]
    unfold upd; rw [if_pos rfl]
  · rw [← e1]
    show (if q = k then _ else _) = _
    rw [if_neg e]
theorem partX_still (B : Nat → Bd) (i k q : Nat) (x y all : Int) (w : V3) (deep : Int) (hx : q = i → x = 0) (hy : q = k → y = 0) (h : InA (B q)) : partX B i k x y all w deep q = B q := by
  have e1 : upd B i (backX (B i) w (mul (deepX deep all) x)) q = B q := by
    unfold upd
    by_cases e : q = i
    · subst e; rw [if_pos rfl, hx rfl, mul_zero_r, backX_zero h]
    · rw [if_neg e]
  show upd (upd B i (backX (B i) w (mul (deepX deep all) x))) k (forthX (upd B i (backX (B i) w (mul (deepX deep all) x)) k) w (mul (deepX deep all) y)) q = B q
  by_cases e : q = k
  · subst e
    rw [e1, hy rfl, mul_zero_r, forthX_zero h]
    unfold upd; rw [if_pos rfl]
  · rw [← e1]
    show (if q = k then _ else _) = _
    rw [if_neg e]
theorem hitX_still (B : Nat → Bd) (i k q : Nat) (x y al : Int) (v : V3) (bo ru : Int) (hx : q = i → x = 0) (hy : q = k → y = 0) (h : InV (B q)) : hitX B i k x y al v bo ru q = B q := by
  rcases hitX_cases B i k x y al v bo ru with e | ⟨j, e⟩ | ⟨j, a, b, c, j', e⟩
  · rw [e]
  · rw [e]; exact giveX_still _ _ _ _ _ _ _ _ _ _ hx hy h
  · have e1 := giveX_still B i k q x y v.x v.y v.z j hx hy h
    rw [e, giveX_still _ _ _ _ _ _ _ _ _ _ hx hy (by rw [e1]; exact h), e1]
/-- A touch that does not move this one. -/
def Idle (b : Bd) (t : Tc) : Prop := b.ms ≤ 0 ∨ (t.a ≠ b.id ∧ t.b ≠ b.id)
theorem lightX_none {m : Int} (h : m ≤ 0) : lightX m = 0 := by unfold lightX; rw [if_pos h]
theorem hitStep_still (n : Nat) (bo ru : Int) (B : Nat → Bd) (t : Tc) (q : Nat) (h : InV (B q)) (hi : Idle (B q) t) : hitStep n bo ru B t q = B q := by
  unfold hitStep
  cases h1 : findX B t.a n with
  | none => rfl
  | some i =>
    cases h2 : findX B t.b n with
    | none => rfl
    | some k =>
      obtain ⟨_, e1⟩ := findX_some h1
      obtain ⟨_, e2⟩ := findX_some h2
      show (if i = k then B else if _ then B else _) q = B q
      split
      · rfl
      · split
        · rfl
        · refine hitX_still _ _ _ _ _ _ _ _ _ _ (fun e => ?_) (fun e => ?_) h
          · subst e
            rcases hi with m | ⟨m, _⟩
            · exact lightX_none m
            · exact absurd e1.symm m
          · subst e
            rcases hi with m | ⟨_, m⟩
            · exact lightX_none m
            · exact absurd e2.symm m
theorem stepX_still (n : Nat) (B : Nat → Bd) (t : Tc) (q : Nat) (h : InA (B q)) (hi : Idle (B q) t) : stepX n B t q = B q := by
  unfold stepX
  cases h1 : findX B t.a n with
  | none => rfl
  | some i =>
    cases h2 : findX B t.b n with
    | none => rfl
    | some k =>
      obtain ⟨_, e1⟩ := findX_some h1
      obtain ⟨_, e2⟩ := findX_some h2
      show (if i = k ∨ t.deep ≤ 655 then B else if _ then _ else B) q = B q
      split
      · rfl
      · split
        · refine partX_still _ _ _ _ _ _ _ _ _ (fun e => ?_) (fun e => ?_) h
          · subst e
            rcases hi with m | ⟨m, _⟩
            · exact lightX_none m
            · exact absurd e1.symm m
          · subst e
            rcases hi with m | ⟨_, m⟩
            · exact lightX_none m
            · exact absurd e2.symm m
        · rfl
theorem roundT_still (n : Nat) (bo ru : Int) (B : Nat → Bd) (T : Nat → Tc) (q : Nat) (h : InV (B q)) : ∀ m, (∀ j, j < m → Idle (B q) (T j)) → roundT n bo ru B T m q = B q
  | 0, _ => rfl
  | m + 1, hi => by
    have e := roundT_still n bo ru B T q h m (fun j hj => hi j (by omega))
    show hitStep n bo ru (roundT n bo ru B T m) (T m) q = B q
    rw [hitStep_still n bo ru _ (T m) q (by rw [e]; exact h) (by rw [e]; exact hi m (by omega)), e]
theorem roundsT_still (n : Nat) (bo ru : Int) (B : Nat → Bd) (T : Nat → Tc) (m q : Nat) (h : InV (B q)) (hi : ∀ j, j < m → Idle (B q) (T j)) : ∀ p, roundsT n bo ru B T m p q = B q
  | 0 => rfl
  | p + 1 => by
    have e := roundsT_still n bo ru B T m q h hi p
    show roundT n bo ru (roundsT n bo ru B T m p) T m q = B q
    rw [roundT_still n bo ru _ T q (by rw [e]; exact h) m (by rw [e]; exact hi), e]
theorem clampB_in {q : Bd} (h : InV q) : clampB q = q := by
  unfold clampB
  obtain ⟨h1, h2, h3⟩ := h
  rw [cl_in (by omega) (by omega), cl_in (by omega) (by omega), cl_in (by omega) (by omega)]
  rfl
theorem speedsT_still (n : Nat) (B : Nat → Bd) (T : Nat → Tc) (m : Nat) (bo ru ro : Int) (q : Nat) (h : InV (B q)) (hi : ∀ j, j < m → Idle (B q) (T j)) : speedsT n B T m bo ru ro q = B q := by
  unfold speedsT
  split
  · have e := roundsT_still n bo ru B T m q h hi ro.toNat
    show (if q < n then clampB (roundsT n bo ru B T m ro.toNat q) else roundsT n bo ru B T m ro.toNat q) = B q
    rw [e]
    split
    · exact clampB_in h
    · rfl
  · rfl
theorem placesX_still (n : Nat) (B : Nat → Bd) (T : Nat → Tc) (q : Nat) (h : InA (B q)) : ∀ m, (∀ j, j < m → Idle (B q) (T j)) → placesX n B T m q = B q
  | 0, _ => rfl
  | m + 1, hi => by
    have e := placesX_still n B T q h m (fun j hj => hi j (by omega))
    show stepX n (placesX n B T m) (T m) q = B q
    rw [stepX_still n _ (T m) q (by rw [e]; exact h) (by rw [e]; exact hi m (by omega)), e]
/-- Speeds alone differ. -/
def SpOnly (p q : Bd) : Prop := q = spX p q.vx q.vy q.vz
def AtOnly (p q : Bd) : Prop := q = atX p q.ax q.ay q.az
theorem SpOnly.refl (p : Bd) : SpOnly p p := rfl
theorem AtOnly.refl (p : Bd) : AtOnly p p := rfl
theorem SpOnly.trans {p q r : Bd} (h : SpOnly p q) (k : SpOnly q r) : SpOnly p r := by
  unfold SpOnly at *
  rw [k, h]; rfl
theorem AtOnly.trans {p q r : Bd} (h : AtOnly p q) (k : AtOnly q r) : AtOnly p r := by
  unfold AtOnly at *
  rw [k, h]; rfl
theorem upd_all {P : Bd → Bd → Prop} (hr : ∀ p, P p p) (B : Nat → Bd) (i : Nat) (b : Bd) (h : P (B i) b) (q : Nat) : P (B q) (upd B i b q) := by
  unfold upd
  by_cases e : q = i
  · subst e; rw [if_pos rfl]; exact h
  · rw [if_neg e]; exact hr _
theorem giveX_sp (B : Nat → Bd) (i k : Nat) (x y a b c j : Int) (q : Nat) : SpOnly (B q) (giveX B i k x y a b c j q) :=
  (upd_all SpOnly.refl B i (lessV (B i) a b c (mul j x)) rfl q).trans (upd_all SpOnly.refl (upd B i (lessV (B i) a b c (mul j x))) k (moreV (upd B i (lessV (B i) a b c (mul j x)) k) a b c (mul j y)) rfl q)
theorem partX_at (B : Nat → Bd) (i k : Nat) (x y all : Int) (w : V3) (deep : Int) (q : Nat) : AtOnly (B q) (partX B i k x y all w deep q) :=
  (upd_all AtOnly.refl B i (backX (B i) w (mul (deepX deep all) x)) rfl q).trans (upd_all AtOnly.refl (upd B i (backX (B i) w (mul (deepX deep all) x))) k (forthX (upd B i (backX (B i) w (mul (deepX deep all) x)) k) w (mul (deepX deep all) y)) rfl q)
theorem hitX_sp (B : Nat → Bd) (i k : Nat) (x y al : Int) (v : V3) (bo ru : Int) (q : Nat) : SpOnly (B q) (hitX B i k x y al v bo ru q) := by
  rcases hitX_cases B i k x y al v bo ru with e | ⟨j, e⟩ | ⟨j, a, b, c, j', e⟩
  · rw [e]; exact SpOnly.refl _
  · rw [e]; exact giveX_sp ..
  · rw [e]; exact (giveX_sp B i k x y v.x v.y v.z j q).trans (giveX_sp ..)
theorem hitStep_sp (n : Nat) (bo ru : Int) (B : Nat → Bd) (t : Tc) (q : Nat) : SpOnly (B q) (hitStep n bo ru B t q) := by
  unfold hitStep
  cases findX B t.a n with
  | none => exact SpOnly.refl _
  | some i =>
    cases findX B t.b n with
    | none => exact SpOnly.refl _
    | some k =>
      show SpOnly (B q) ((if i = k then B else if _ then B else _) q)
      split
      · exact SpOnly.refl _
      · split
        · exact SpOnly.refl _
        · exact hitX_sp ..
theorem stepX_at (n : Nat) (B : Nat → Bd) (t : Tc) (q : Nat) : AtOnly (B q) (stepX n B t q) := by
  rcases stepX_cases n B t with e | ⟨i, k, x, y, all, e⟩
  · rw [e]; exact AtOnly.refl _
  · rw [e]; exact partX_at ..
theorem roundT_sp (n : Nat) (bo ru : Int) (B : Nat → Bd) (T : Nat → Tc) (q : Nat) : ∀ m, SpOnly (B q) (roundT n bo ru B T m q)
  | 0 => SpOnly.refl _
  | m + 1 => (roundT_sp n bo ru B T q m).trans (hitStep_sp n bo ru (roundT n bo ru B T m) (T m) q)
theorem roundsT_sp (n : Nat) (bo ru : Int) (B : Nat → Bd) (T : Nat → Tc) (m q : Nat) : ∀ p, SpOnly (B q) (roundsT n bo ru B T m p q)
  | 0 => SpOnly.refl _
  | p + 1 => (roundsT_sp n bo ru B T m q p).trans (roundT_sp n bo ru (roundsT n bo ru B T m p) T q m)
theorem speedsT_sp (n : Nat) (B : Nat → Bd) (T : Nat → Tc) (m : Nat) (bo ru ro : Int) (q : Nat) : SpOnly (B q) (speedsT n B T m bo ru ro q) := by
  unfold speedsT
  split
  · have e := roundsT_sp n bo ru B T m q ro.toNat
    show SpOnly (B q) (if q < n then clampB (roundsT n bo ru B T m ro.toNat q) else roundsT n bo ru B T m ro.toNat q)
    split
    · exact e.trans rfl
    · exact e
  · exact SpOnly.refl _
theorem placesX_at (n : Nat) (B : Nat → Bd) (T : Nat → Tc) (q : Nat) : ∀ m, AtOnly (B q) (placesX n B T m q)
  | 0 => AtOnly.refl _
  | m + 1 => (placesX_at n B T q m).trans (stepX_at n (placesX n B T m) (T m) q)
end Go.Proofs.Ytpegjobehdihbaa
