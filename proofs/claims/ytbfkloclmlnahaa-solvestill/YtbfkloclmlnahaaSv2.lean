/- What touches do to bodies, in plain functions; gyreref.index, the lights: whatever the bodies. -/
import Derived.Test.YtbfkloclmlnahaaSv1
namespace Go.Proofs.Ytbfkloclmlnahaa
open Go.ChangeShapes Go.WideShapes Go.ChangeAt Go.RowKit
set_option linter.unusedVariables false
set_option linter.unusedSimpArgs false

/-- Where the body of a number lies among the first n. -/
def findX (B : Nat → Bd) (id : Int) : Nat → Option Nat
  | 0 => none
  | n + 1 => match findX B id n with
    | some i => some i
    | none => if (B n).id = id then some n else none
theorem findX_some {B : Nat → Bd} {id : Int} : ∀ {n i : Nat}, findX B id n = some i → i < n ∧ (B i).id = id
  | 0, i, h => by simp [findX] at h
  | n + 1, i, h => by
    simp only [findX] at h
    split at h
    · rename_i j hj
      injection h with h; subst h
      have := findX_some hj
      exact ⟨by omega, this.2⟩
    · split at h
      · rename_i e
        injection h with h; subst h
        exact ⟨by omega, e⟩
      · cases h
theorem findX_none {B : Nat → Bd} {id : Int} : ∀ {n : Nat}, findX B id n = none → ∀ i, i < n → (B i).id ≠ id
  | 0, _, i, hi => by omega
  | n + 1, h, i, hi => by
    simp only [findX] at h
    split at h
    · cases h
    · rename_i hn
      split at h
      · cases h
      · rename_i e
        by_cases q : i = n
        · subst q; exact e
        · exact findX_none hn i (by omega)
theorem findX_least {B : Nat → Bd} {id : Int} : ∀ {n i : Nat}, i < n → (B i).id = id → (∀ x, x < i → (B x).id ≠ id) → findX B id n = some i
  | 0, i, h, _, _ => by omega
  | n + 1, i, h, e, l => by
    simp only [findX]
    by_cases q : i = n
    · subst q
      cases hf : findX B id i with
      | some k => have := findX_some hf; exact absurd this.2 (l k this.1)
      | none => simp [e]
    · rw [findX_least (by omega) e l]
theorem findX_congr {B C : Nat → Bd} {id : Int} (h : ∀ i, (B i).id = (C i).id) : ∀ n, findX B id n = findX C id n
  | 0 => rfl
  | n + 1 => by simp only [findX, findX_congr h n, h n]
def numX : Option Nat → Int
  | some i => i
  | none => -1
def lightX (m : Int) : Int := if m ≤ 0 then 0 else div 65536 m
structure V3 where
  (x y z : Int)
structure Tc where
  (a b : Int) (way : V3) (deep : Int)
def upd (B : Nat → Bd) (i : Nat) (b : Bd) : Nat → Bd := fun j => if j = i then b else B j
def atX (b : Bd) (x y z : Int) : Bd := { b with ax := x, ay := y, az := z }
def spX (b : Bd) (x y z : Int) : Bd := { b with vx := x, vy := y, vz := z }
/-- One moved back by much along a way, and kept within the world. -/
def backX (b : Bd) (w : V3) (m : Int) : Bd := atX b (cl 65536000 (sub b.ax (mul w.x m))) (cl 65536000 (sub b.ay (mul w.y m))) (cl 65536000 (sub b.az (mul w.z m)))
def forthX (b : Bd) (w : V3) (m : Int) : Bd := atX b (cl 65536000 (add b.ax (mul w.x m))) (cl 65536000 (add b.ay (mul w.y m))) (cl 65536000 (add b.az (mul w.z m)))
def deepX (deep all : Int) : Int := div ((sub deep 655).tdiv 5) all
/-- Two taken apart. -/
def partX (B : Nat → Bd) (i k : Nat) (x y all : Int) (w : V3) (deep : Int) : Nat → Bd :=
  let B1 := upd B i (backX (B i) w (mul (deepX deep all) x))
  upd B1 k (forthX (B1 k) w (mul (deepX deep all) y))
def stepX (n : Nat) (B : Nat → Bd) (t : Tc) : Nat → Bd :=
  match findX B t.a n, findX B t.b n with
  | some i, some k => if i = k ∨ t.deep ≤ 655 then B else
      if 0 < add (lightX (B i).ms) (lightX (B k).ms) then partX B i k (lightX (B i).ms) (lightX (B k).ms) (add (lightX (B i).ms) (lightX (B k).ms)) t.way t.deep else B
  | _, _ => B
def placesX (n : Nat) (B : Nat → Bd) (T : Nat → Tc) : Nat → Nat → Bd
  | 0 => B
  | m + 1 => stepX n (placesX n B T m) (T m)
theorem partX_id (B : Nat → Bd) (i k : Nat) (x y all : Int) (w : V3) (deep : Int) (j : Nat) : (partX B i k x y all w deep j).id = (B j).id ∧ (partX B i k x y all w deep j).ms = (B j).ms := by
  simp only [partX, upd, backX, forthX, atX]
  by_cases h1 : j = k
  · subst h1
    by_cases h2 : j = i
    · subst h2; simp
    · simp [h2]
  · by_cases h2 : j = i
    · subst h2; simp [h1]
    · simp [h1, h2]
theorem stepX_cases (n : Nat) (B : Nat → Bd) (t : Tc) : stepX n B t = B ∨ ∃ i k x y all, stepX n B t = partX B i k x y all t.way t.deep := by
  unfold stepX
  cases findX B t.a n with
  | none => exact Or.inl rfl
  | some i =>
    cases findX B t.b n with
    | none => exact Or.inl rfl
    | some k =>
      simp only
      by_cases h : i = k ∨ t.deep ≤ 655
      · rw [if_pos h]; exact Or.inl rfl
      · rw [if_neg h]
        by_cases h2 : 0 < add (lightX (B i).ms) (lightX (B k).ms)
        · rw [if_pos h2]; exact Or.inr ⟨_, _, _, _, _, rfl⟩
        · rw [if_neg h2]; exact Or.inl rfl
theorem stepX_id (n : Nat) (B : Nat → Bd) (t : Tc) (j : Nat) : (stepX n B t j).id = (B j).id ∧ (stepX n B t j).ms = (B j).ms := by
  rcases stepX_cases n B t with h | ⟨i, k, x, y, all, h⟩
  · rw [h]; exact ⟨rfl, rfl⟩
  · rw [h]; exact partX_id ..
theorem placesX_id (n : Nat) (B : Nat → Bd) (T : Nat → Tc) : ∀ m j, (placesX n B T m j).id = (B j).id ∧ (placesX n B T m j).ms = (B j).ms
  | 0, j => ⟨rfl, rfl⟩
  | m + 1, j => by
    have h1 := stepX_id n (placesX n B T m) (T m) j
    have h2 := placesX_id n B T m j
    exact ⟨h1.1.trans h2.1, h1.2.trans h2.2⟩

theorem light_calls (m : Int) (w : World) : Calls Try.prog 135 #[.int .i64 m] w fun e w' => e = .returned (.int .i64 (lightX m)) ∧ Kept w w' := by
  by_cases h : m ≤ 0
  · have t : decide (m ≤ 0) = true := by simpa using h
    have HR : Hid (lightX m = 0) := if_pos h
    clear h
    go_enter Try.func135, Try.ntmps135
    go_wp2_with fail
    go_ret
    exact ⟨ret_int HR.out.symm, Kept.refl _⟩
  · have t : decide (m ≤ 0) = false := by simpa using h
    have HR : Hid (lightX m = div 65536 m) := if_neg h
    clear h
    go_enter Try.func135, Try.ntmps135
    go_wp2_with fail
    refine (div_calls 65536 m _).mono ?_
    rintro e w1 ⟨rfl, k1⟩
    go_wp2_with fail
    go_ret
    exact ⟨ret_int HR.out.symm, k1⟩
set_option maxRecDepth 100000 in
theorem refLight_calls (q : Bd) (w : World) : Calls Try.prog 120 #[.agg #[.int .i64 (q.id), .int .i64 (q.ow), .int .i64 (q.kd), .int .i64 (q.sx), .int .i64 (q.sy), .int .i64 (q.sz), .int .i64 (q.ax), .int .i64 (q.ay), .int .i64 (q.az), .int .i64 (q.vx), .int .i64 (q.vy), .int .i64 (q.vz), .int .i64 (q.px), .int .i64 (q.py), .int .i64 (q.pz), .int .i64 (q.ms), .int .i64 (q.tm)]] w fun e w' => e = .returned (.int .i64 (lightX q.ms)) ∧ Kept w w' := by
  by_cases h : q.ms ≤ 0
  · have t : decide (q.ms ≤ 0) = true := by simpa using h
    have HR : Hid (lightX q.ms = 0) := if_pos h
    clear h
    go_enter Try.func120, Try.ntmps120
    go_wp2_with fail
    go_ret
    exact ⟨ret_int HR.out.symm, (Kept.refl _).alloc _ _⟩
  · have t : decide (q.ms ≤ 0) = false := by simpa using h
    have HR : Hid (lightX q.ms = div 65536 q.ms) := if_neg h
    clear h
    go_enter Try.func120, Try.ntmps120
    go_wp2_with fail
    refine (refDiv_calls 65536 q.ms _).mono ?_
    rintro e w1 ⟨rfl, hw⟩
    subst hw
    go_wp2_with fail
    go_ret
    exact ⟨ret_int HR.out.symm, (Kept.refl _).alloc _ _⟩
set_option maxRecDepth 100000 in
theorem index_calls (a : Option Addr) (n c : Nat) (B : Nat → Bd) (id : Int) (w : World) (hn : n ≤ 30) (h : BodiesAt w a n B) :
    Calls Try.prog 119 #[.slice a n c, .int .i64 id] w fun e w' => e = .returned (.int .i64 (numX (findX B id n))) ∧ Kept w w' := by
  have HB : Hid (BodiesAt w a n B ∧ n ≤ 30) := ⟨h, hn⟩
  clear h hn
  go_enter Try.func119, Try.ntmps119
  go_wp2_with fail
  go_loopg [9] n (fun k idx wr => ∃ i : Nat, idx = .int .i64 (i : Int) ∧ Hid (i ≤ n ∧ k = n - i ∧ (∀ x, x < i → (B x).id ≠ id)) ∧ Hid (Kept w wr))
  case atStart => exact ⟨0, rfl, ⟨by omega, rfl, fun x hx => by omega⟩, Kept.refl _⟩
  case round =>
    obtain ⟨i, rfl, H1, HO⟩ := hrel
    have hn := HB.out.2
    by_cases hi : i < n
    · have hil : (i : Int) < (n : Int) := by omega
      obtain ⟨g, o, rfl, c1⟩ := (HB.out.1.only (Only.of_kept HO.out)) i hi
      obtain ⟨q, hq⟩ : ∃ q, q = B i := ⟨_, rfl⟩
      rw [← hq] at c1
      have HQ : Hid (q = B i) := hq
      clear hq
      have d0 := c1 0 (by omega)
      have d1 := c1 1 (by omega)
      have d2 := c1 2 (by omega)
      have d3 := c1 3 (by omega)
      have d4 := c1 4 (by omega)
      have d5 := c1 5 (by omega)
      have d6 := c1 6 (by omega)
      have d7 := c1 7 (by omega)
      have d8 := c1 8 (by omega)
      have d9 := c1 9 (by omega)
      have d10 := c1 10 (by omega)
      have d11 := c1 11 (by omega)
      have d12 := c1 12 (by omega)
      have d13 := c1 13 (by omega)
      have d14 := c1 14 (by omega)
      have d15 := c1 15 (by omega)
      have d16 := c1 16 (by omega)
      simp only [bc, Nat.add_zero] at d0 d1 d2 d3 d4 d5 d6 d7 d8 d9 d10 d11 d12 d13 d14 d15 d16
      clear c1
      by_cases he : q.id = id
      · have t : (q.id == id) = true := by simpa using he
        have HR : Hid (numX (findX B id n) = i) := by
          show numX (findX B id n) = i
          rw [findX_least hi (by rw [← HQ.out]; exact he) H1.out.2.2]; rfl
        clear he
        go_wp2_with fail
        go_ret
        exact ⟨ret_int HR.out.symm, (HO.out.alloc _ _)⟩
      · have t : (q.id == id) = false := by simpa using he
        have HE : Hid (¬ q.id = id) := he
        clear he
        go_wp2_with fail
        go_roundg (n - (i + 1))
        case measure => have := H1.out.2.1; omega
        case rel =>
          refine ⟨i + 1, by go_num, ⟨by omega, rfl, fun x hx => ?_⟩, HO.out.alloc _ _⟩
          by_cases e : x = i
          · subst e; rw [← HQ.out]; exact HE.out
          · exact H1.out.2.2 x (by omega)
    · have hil : ¬ (i : Int) < (n : Int) := by omega
      have HR : Hid (numX (findX B id n) = -1) := by
        show numX (findX B id n) = -1
        cases hf : findX B id n with
        | none => rfl
        | some k => have := findX_some hf; exact absurd this.2 (H1.out.2.2 k (by have := H1.out.1; omega))
      go_wp2_with fail
      go_ret
      exact ⟨ret_int HR.out.symm, HO.out⟩
end Go.Proofs.Ytbfkloclmlnahaa
