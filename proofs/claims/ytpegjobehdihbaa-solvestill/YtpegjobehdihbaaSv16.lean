/- Speeds told touch by touch, and told by meetings, are the same: plain functions. -/
import Derived.Test.YtpegjobehdihbaaSv15
namespace Go.Proofs.Ytpegjobehdihbaa
open Go.ChangeShapes Go.WideShapes Go.ChangeAt Go.RowKit
set_option linter.unusedVariables false
set_option linter.unusedSimpArgs false

/-- What one touch does to speeds. -/
def hitStep (n : Nat) (bo ru : Int) (B : Nat → Bd) (t : Tc) : Nat → Bd :=
  match findX B t.a n, findX B t.b n with
  | some i, some k => if i = k then B else
      if add (lightX (B i).ms) (lightX (B k).ms) = 0 then B else hitX B i k (lightX (B i).ms) (lightX (B k).ms) (add (lightX (B i).ms) (lightX (B k).ms)) t.way bo ru
  | _, _ => B
def roundT (n : Nat) (bo ru : Int) (B : Nat → Bd) (T : Nat → Tc) : Nat → Nat → Bd
  | 0 => B
  | m + 1 => hitStep n bo ru (roundT n bo ru B T m) (T m)
def roundsT (n : Nat) (bo ru : Int) (B : Nat → Bd) (T : Nat → Tc) (m : Nat) : Nat → Nat → Bd
  | 0 => B
  | p + 1 => roundT n bo ru (roundsT n bo ru B T m p) T m
def speedsT (n : Nat) (B : Nat → Bd) (T : Nat → Tc) (m : Nat) (bo ru ro : Int) : Nat → Bd :=
  if rightX bo ru ro = true then clampTo (roundsT n bo ru B T m ro.toNat) n else B
theorem cut_pos {n : Int} (h : 0 < n) : 0 < cut n := by unfold cut; split <;> (try split) <;> omega
theorem cut_nn {n : Int} (h : 0 ≤ n) : 0 ≤ cut n := by unfold cut; split <;> (try split) <;> omega
theorem lightX_nn (m : Int) : 0 ≤ lightX m := by
  unfold lightX
  split
  · omega
  · rename_i h
    have hc := cut_pos (show 0 < m by omega)
    unfold div
    rw [if_neg (by omega)]
    refine cut_nn (Int.tdiv_nonneg ?_ (by omega))
    have : cut 65536 = 65536 := cut_in (by omega) (by omega)
    rw [this]; omega
theorem add_nn {x y : Int} (hx : 0 ≤ x) (hy : 0 ≤ y) : 0 ≤ add x y := by
  unfold add
  have h1 := cut_nn hx
  have h2 := cut_nn hy
  exact cut_nn (by omega)
theorem upd_id (B : Nat → Bd) (i : Nat) (b : Bd) (h1 : b.id = (B i).id) (h2 : b.ms = (B i).ms) (j : Nat) : (upd B i b j).id = (B j).id ∧ (upd B i b j).ms = (B j).ms := by
  unfold upd
  by_cases h : j = i
  · subst h; simp [h1, h2]
  · simp [h]
theorem giveX_id (B : Nat → Bd) (i k : Nat) (x y a b c j : Int) (q : Nat) : (giveX B i k x y a b c j q).id = (B q).id ∧ (giveX B i k x y a b c j q).ms = (B q).ms := by
  unfold giveX
  have h1 := upd_id B i (lessV (B i) a b c (mul j x)) rfl rfl
  have h2 := upd_id (upd B i (lessV (B i) a b c (mul j x))) k (moreV (upd B i (lessV (B i) a b c (mul j x)) k) a b c (mul j y)) rfl rfl q
  exact ⟨h2.1.trans (h1 q).1, h2.2.trans (h1 q).2⟩
theorem hitX_cases (B : Nat → Bd) (i k : Nat) (x y al : Int) (v : V3) (bo ru : Int) : hitX B i k x y al v bo ru = B ∨ (∃ j, hitX B i k x y al v bo ru = giveX B i k x y v.x v.y v.z j) ∨ ∃ j a b c j', hitX B i k x y al v bo ru = giveX (giveX B i k x y v.x v.y v.z j) i k x y a b c j' := by
  unfold hitX
  by_cases h1 : 0 ≤ dotX (relX (B i) (B k)) v
  · simp [h1]
  · simp only [h1, if_false]
    split
    · exact Or.inr (Or.inl ⟨_, rfl⟩)
    · exact Or.inr (Or.inr ⟨_, _, _, _, _, rfl⟩)
theorem hitX_id (B : Nat → Bd) (i k : Nat) (x y al : Int) (v : V3) (bo ru : Int) (q : Nat) : (hitX B i k x y al v bo ru q).id = (B q).id ∧ (hitX B i k x y al v bo ru q).ms = (B q).ms := by
  rcases hitX_cases B i k x y al v bo ru with h | ⟨j, h⟩ | ⟨j, a, b, c, j', h⟩
  · rw [h]; exact ⟨rfl, rfl⟩
  · rw [h]; exact giveX_id ..
  · rw [h]
    have h1 := giveX_id (giveX B i k x y v.x v.y v.z j) i k x y a b c j' q
    have h2 := giveX_id B i k x y v.x v.y v.z j q
    exact ⟨h1.1.trans h2.1, h1.2.trans h2.2⟩
theorem fold_hit (n : Nat) (bo ru : Int) (P : Nat → Bd) (t : Tc) : (meetX1 n P t).foldl (hitM bo ru) P = hitStep n bo ru P t := by
  unfold meetX1 hitStep
  cases findX P t.a n with
  | none => rfl
  | some i =>
    cases findX P t.b n with
    | none => rfl
    | some k =>
      simp only
      by_cases e : i = k
      · simp [e]
      · have hn := add_nn (lightX_nn (P i).ms) (lightX_nn (P k).ms)
        by_cases ha : add (lightX (P i).ms) (lightX (P k).ms) = 0
        · have h2 : ¬ 0 < add (lightX (P i).ms) (lightX (P k).ms) := by omega
          simp [e, ha, h2]
        · have h2 : 0 < add (lightX (P i).ms) (lightX (P k).ms) := by omega
          simp [e, ha, h2, hitM]
theorem hitStep_id (n : Nat) (bo ru : Int) (B : Nat → Bd) (t : Tc) (q : Nat) : (hitStep n bo ru B t q).id = (B q).id ∧ (hitStep n bo ru B t q).ms = (B q).ms := by
  rw [← fold_hit]
  have key : ∀ (ms : List Mt) (C : Nat → Bd), (ms.foldl (hitM bo ru) C q).id = (C q).id ∧ (ms.foldl (hitM bo ru) C q).ms = (C q).ms := by
    intro ms
    induction ms with
    | nil => intro C; exact ⟨rfl, rfl⟩
    | cons t ms ih =>
      intro C
      have h1 := ih (hitM bo ru C t)
      have h2 := hitX_id C t.i t.k t.x t.y t.all t.way bo ru q
      exact ⟨h1.1.trans h2.1, h1.2.trans h2.2⟩
  exact key _ B
theorem roundT_id (n : Nat) (bo ru : Int) (B : Nat → Bd) (T : Nat → Tc) : ∀ m q, (roundT n bo ru B T m q).id = (B q).id ∧ (roundT n bo ru B T m q).ms = (B q).ms
  | 0, q => ⟨rfl, rfl⟩
  | m + 1, q => by
    have h1 := hitStep_id n bo ru (roundT n bo ru B T m) (T m) q
    have h2 := roundT_id n bo ru B T m q
    exact ⟨h1.1.trans h2.1, h1.2.trans h2.2⟩
theorem roundsT_id (n : Nat) (bo ru : Int) (B : Nat → Bd) (T : Nat → Tc) (m : Nat) : ∀ p q, (roundsT n bo ru B T m p q).id = (B q).id ∧ (roundsT n bo ru B T m p q).ms = (B q).ms
  | 0, q => ⟨rfl, rfl⟩
  | p + 1, q => by
    have h1 := roundT_id n bo ru (roundsT n bo ru B T m p) T m q
    have h2 := roundsT_id n bo ru B T m p q
    exact ⟨h1.1.trans h2.1, h1.2.trans h2.2⟩
theorem fold_round (n : Nat) (bo ru : Int) (B C : Nat → Bd) (T : Nat → Tc) (h1 : ∀ i, (B i).id = (C i).id) (h2 : ∀ i, (B i).ms = (C i).ms) : ∀ m, (meetsX n B T m).foldl (hitM bo ru) C = roundT n bo ru C T m
  | 0 => rfl
  | m + 1 => by
    simp only [meetsX, roundT, List.foldl_append, fold_round n bo ru B C T h1 h2 m]
    have h3 := roundT_id n bo ru C T m
    rw [meetX1_congr (fun i => (h1 i).trans (h3 i).1.symm) (fun i => (h2 i).trans (h3 i).2.symm) (T m)]
    exact fold_hit n bo ru _ (T m)
theorem iter_rounds (n : Nat) (bo ru : Int) (B : Nat → Bd) (T : Nat → Tc) (m : Nat) : ∀ p, iterM bo ru (meetsX n B T m) B p = roundsT n bo ru B T m p
  | 0 => rfl
  | p + 1 => by
    simp only [iterM, roundsT, iter_rounds n bo ru B T m p]
    have h3 := roundsT_id n bo ru B T m p
    exact fold_round n bo ru B _ T (fun i => (h3 i).1.symm) (fun i => (h3 i).2.symm) m
theorem speeds_same (n : Nat) (B : Nat → Bd) (T : Nat → Tc) (m : Nat) (bo ru ro : Int) : speedsM n B T m bo ru ro = speedsT n B T m bo ru ro := by
  unfold speedsM speedsT
  rw [iter_rounds]
end Go.Proofs.Ytpegjobehdihbaa
