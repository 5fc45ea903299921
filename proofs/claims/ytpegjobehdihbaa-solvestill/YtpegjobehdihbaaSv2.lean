/- What touches do to bodies, in plain functions; gyreref.index, the lights: whatever the bodies. -/
import Derived.Test.YtpegjobehdihbaaSv1
namespace Go.Proofs.Ytpegjobehdihbaa
open Go.ChangeShapes Go.WideShapes Go.ChangeAt Go.RowKit
set_option linter.unusedVariables false
set_option linter.unusedSimpArgs false

/-- Where the body of a number lies among the first n. -/
def findX (B : Nat → Bd) (id : Int) : Nat → Option Nat
  | 0 => none
  | n + 1 => match findX B id n with
    | some i => some i
    | none => if (B n).id = id then some n else none
theorem findX_some {B : Nat → Bd} {id : Int} : ∀ {n i : Nat}, findX B id n = some i → i < n ∧ (B i).id = id
  | 0, i, h => by simp [findX] at h
  | n + 1, i, h => by
    simp only [findX] at h
    split at h
    · rename_i j hj
      injection h with h; subst h
      have := findX_some hj
      exact ⟨by omega, this.2⟩
    · split at h
      · rename_i e
        injection h with h; subst h
        exact ⟨by omega, e⟩
      · cases h
theorem findX_none {B : Nat → Bd} {id : Int} : ∀ {n : Nat}, findX B id n = none → ∀ i, i < n → (B i).id ≠ id
  | 0, _, i, hi => by omega
  | n + 1, h, i, hi => by
    simp only [findX] at h
    split at h
    · cases h
    · rename_i hn
      split at h
      · cases h
      · rename_i e
        by_cases q : i = n
        · subst q; exact e
        · exact findX_none hn i (by omega)
theorem findX_least {B : Nat → Bd} {id : Int} : ∀ {n i : Nat}, i < n → (B i).id = id → (∀ x, x < i → (B x).id ≠ id) → findX B id n = some i
  | 0, i, h, _, _ => by omega
  | n + 1, i, h, e, l => by
    simp only [findX]
    by_cases q : i = n
    · subst q
      cases hf : findX B id i with
      | some k => have := findX_some hf; exact absurd this.2 (l k this.1)
      | none => simp [e]
    · rw [findX_least (by omega) e l]
theorem findX_congr {B C : Nat → Bd} {id : Int} (h : ∀ i, (B i).id = (C i).id) : ∀ n, findX B id n = findX C id n
  | 0 => rfl
  | n + 1 => by simp only [findX, findX_congr h n, h n]
def numX : Option Nat → Int
  | some i => i
  | none => -1
def lightX (m : Int) : Int := if m ≤ 0 then 0 else div 65536 m
structure V3 where
  (x y z : Int)
structure Tc where
  (a b : Int) (way : V3) (deep : Int)
def upd (B : Nat → Bd) (i : Nat) (b : Bd) : Nat → Bd := fun j => if j = i then b else B j
def atX (b : Bd) (x y z : Int) : Bd := { b with ax := x, ay := y, az := z }
def spX (b : Bd) (x y z : Int) : Bd := { b with vx := x, vy := y, vz := z }
/-- One moved back by much along a way, and kept within the world. -/
def backX (b : Bd) (w : V3) (m : Int) : Bd := atX b (cl 65536000 (sub b.ax (mul w.x m))) (cl 65536000 (sub b.ay (mul w.y m))) (cl 65536000 (sub b.az (mul w.z m)))
def forthX (b : Bd) (w : V3) (m : Int) : Bd := atX b (cl 65536000 (add b.ax (mul w.x m))) (cl 65536000 (add b.ay (mul w.y m))) (cl 65536000 (add b.az (mul w.z m)))
def deepX (deep all : Int) : Int := div ((sub deep 655).tdiv 5) all
/-- Two taken apart. -/
def partX (B : Nat → Bd) (i k : Nat) (x y all : Int) (w : V3) (deep : Int) : Nat → Bd :=
  let B1 := upd B i (backX (B i) w (mul (deepX deep all) x))
  upd B1 k (forthX (B1 k) w (mul (deepX deep all) y))
def stepX (n : Nat) (B : Nat → Bd) (t : Tc) : Nat → Bd :=
  match findX B t.a n, findX B t.b n with
  | some i, some k => if i = k ∨ t.deep ≤ 655 then B else
      if 0 < add (lightX (B i).ms) (lightX (B k).ms) then partX B i k (lightX (B i).ms) (lightX (B k).ms) (add (lightX (B i).ms) (lightX (B k).ms)) t.way t.deep else B
  | _, _ => B
def placesX (n : Nat) (B : Nat → Bd) (T : Nat → Tc) : Nat → Nat → Bd
  | 0 => B
  | m + 1 => stepX n (placesX n B T m) (T m)
theorem partX_id (B : Nat → Bd) (i k : Nat) (x y all : Int) (w : V3) (deep : Int) (j : Nat) : (partX B i k x y all w deep j).id = (B j).id ∧ (partX B i k x y all w deep j).ms = (B j).ms := by
  simp only [partX, upd, backX, forthX, atX]
  by_cases h1 : j = k
  · subst h1
    by_cases h2 : j = i
    · subst h2; simp
    · simp [h2]
  · by_cases h2 : j = i
    · subst h2; simp [h1]
    · simp [h1, h2]
theorem stepX_cases (n : Nat) (B : Nat → Bd) (t : Tc) : stepX n B t = B ∨ ∃ i k x y all, stepX n B t = partX B i k x y all t.way t.deep := by
  unfold stepX
  cases findX B t.a n with
  | none => exact Or.inl rfl
  | some i =>
    cases findX B t.b n with
    | none => exact Or.inl rfl
    | some k =>
      simp only
      by_cases h : i = k ∨ t.deep ≤ 655
      · rw [if_pos h]; exact Or.inl rfl
      · rw [if_neg h]
        by_cases h2 : 0 < add (lightX (B i).ms) (lightX (B k).ms)
        · rw [if_pos h2]; exact Or.inr ⟨_, _, _, _, _, rfl⟩
        · rw [if_neg h2]; exact Or.inl rfl
theorem stepX_id (n : Nat) (B : Nat → Bd) (t : Tc) (j : Nat) : (stepX n B t j).id = (B j).id ∧ (stepX n B t j).ms = (B j).ms := by
  rcases stepX_cases n B t with h | ⟨i, k, x, y, all, h⟩
  · rw [h]; exact ⟨rfl, rfl⟩
  · rw [h]; exact partX_id ..
theorem placesX_id (n : Nat) (B : Nat → Bd) (T : Nat → Tc) : ∀ m j, (placesX n B T m j).id = (B j).id ∧ (placesX n B T m j).ms = (B j).ms
  | 0, j => ⟨rfl, rfl⟩
  | m + 1, j => by
    have h1 := stepX_id n (placesX n B T m) (T m) j
    have h2 := placesX_id n B T m j
    exact ⟨h1.1.trans h2.1, h1.2.trans h2.2⟩

theorem light_calls (m : Int) (w : World) : Calls Try.prog 20 #[.int .i64 m] w fun e w' => e = .returned (.int .i64 (lightX m)) ∧ Kept w w' := by
  by_cases h : m ≤ 0
  · have t : decide (m ≤ 0) = true := by simpa using h
    have HR : Hid (lightX m = 0) := if_pos h
    clear h
    go_enter Try.func20, Try.ntmps20
    go_wp2_with fail
    go_ret
    exact ⟨ret_int HR.out.symm, Kept.refl _⟩
  · have t : decide (m ≤ 0) = false := by simpa using h
    have HR : Hid (lightX m = div 65536 m) := if_neg h
    clear h
    go_enter Try.func20, Try.ntmps20
    go_wp2_with fail
    refine (div_calls 65536 m _).mono ?_
    rintro e w1 ⟨rfl, k1⟩
    go_wp2_with fail
    go_ret
    exact ⟨ret_int HR.out.symm, k1⟩
end Go.Proofs.Ytpegjobehdihbaa
