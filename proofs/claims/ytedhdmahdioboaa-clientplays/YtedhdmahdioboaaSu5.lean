/- Int of the reference's Tape: it reads what Int reads. -/
import Derived.Test.YtedhdmahdioboaaSu4
namespace Go.Proofs.Ytedhdmahdioboaa
open Go.ChangeShapes Go.WideShapes Go.ChangeAt Go.RowKit
set_option linter.unusedVariables false
set_option linter.unusedSimpArgs false

/-- How reading up to 2^61 hangs on reading up to 2^62 - 1. -/
def Less (G G' : Nat × Nat × Nat) : Prop := (G.1 ≠ 0 → G'.1 = G.1) ∧ (G.1 = 0 → G.2.1 ≤ 2305843009213693952 → G' = G) ∧ (G.1 = 0 → 2305843009213693952 < G.2.1 → G'.1 = 3)
theorem Less.refl (G : Nat × Nat × Nat) (h : G.1 = 0 → G.2.1 ≤ 2305843009213693952) : Less G G := ⟨fun _ => rfl, fun _ _ => rfl, fun h0 h1 => by have := h h0; omega⟩
theorem Less.err {G G' : Nat × Nat × Nat} (h : G.1 ≠ 0) (e : G'.1 = G.1) : Less G G' := ⟨fun _ => e, fun q => absurd q h, fun q => absurd q h⟩
theorem less_gather (l : List Nat) : ∀ (f i n P : Nat), f + i = 13 → n < 2 ^ (5 * i) → i ≤ 13 → Less (gatherM 4611686018427387903 l f i n P) (gatherM 2305843009213693952 l f i n P) := by
  intro f
  induction f with
  | zero => intro i n P hf hn hi; exact Less.err (fun h => by cases h) rfl
  | succ f ih =>
    intro i n P hf hn hi
    rw [gatherM_succ, gatherM_succ]
    by_cases q1 : l.length < P + 6
    · rw [if_pos q1, if_pos q1]; exact Less.err (fun h => by cases h) rfl
    rw [if_neg q1, if_neg q1]
    by_cases q2 : 0 < i ∧ valB ((l.drop P).take 6) = 0
    · rw [if_pos q2, if_pos q2]; exact Less.err (fun h => by cases h) rfl
    rw [if_neg q2, if_neg q2]
    generalize valB ((l.drop P).take 6) = x
    by_cases h12 : i = 12
    · subst h12
      obtain rfl : f = 0 := by omega
      rw [show (5 * 12 : Nat) = 60 from rfl] at hn ⊢
      have e60 : (2 : Nat) ^ 60 = 1152921504606846976 := by decide
      rw [room_12 n hn]
      rw [e60] at hn ⊢
      by_cases q3 : 3 < x % 32
      · rw [if_pos q3, if_pos (by omega)]
        exact Less.err (fun h => by cases h) rfl
      · rw [if_neg q3]
        by_cases q4 : x < 32
        · rw [if_pos q4]
          by_cases q5 : (2305843009213693952 - n) / 1152921504606846976 < x % 32
          · rw [if_pos q5]
            refine ⟨fun h => absurd rfl h, fun _ h => ?_, fun _ _ => rfl⟩
            exfalso
            simp only at h
            omega
          · rw [if_neg q5, if_pos q4]
            refine ⟨fun h => absurd rfl h, fun _ _ => rfl, fun _ h => ?_⟩
            exfalso
            simp only at h
            omega
        · rw [if_neg q4]
          refine Less.err (fun h => by cases h) ?_
          split
          · rfl
          · rfl
    · have hi12 : i < 12 := by omega
      have r1 := room_low n i hi12 hn
      have r2 : 31 ≤ (2305843009213693952 - n) / 2 ^ (5 * i) := by
        have hp : 2 ^ (5 * i) ≤ 2 ^ 55 := Nat.pow_le_pow_right (by omega) (by omega)
        rw [Nat.le_div_iff_mul_le (Nat.pow_pos (by omega))]
        have : (2 : Nat) ^ 55 = 36028797018963968 := by decide
        omega
      have r1' : ¬ (4611686018427387903 - n) / 2 ^ (5 * i) < x % 32 := by have : x % 32 < 32 := Nat.mod_lt _ (by omega); omega
      have r2' : ¬ (2305843009213693952 - n) / 2 ^ (5 * i) < x % 32 := by have : x % 32 < 32 := Nat.mod_lt _ (by omega); omega
      rw [if_neg r1', if_neg r2']
      have hs := acc_lt n (x % 32) i hn (by omega)
      by_cases q4 : x < 32
      · rw [if_pos q4, if_pos q4]
        refine Less.refl _ (fun _ => ?_)
        have h2 : 2 ^ (5 * (i + 1)) ≤ 2 ^ 60 := Nat.pow_le_pow_right (by omega) (by omega)
        have : (2 : Nat) ^ 60 = 1152921504606846976 := by decide
        simp only
        omega
      · rw [if_neg q4, if_neg q4]
        exact ih _ _ _ (by omega) hs (by omega)
/-- Int, by way of Var. -/
theorem intM_num (L : List Nat) (p : Nat) : intM L p = if (numM 4611686018427387903 L p).1 = 0 then (if (numM 4611686018427387903 L p).2.1 ≤ 2305843009213693952 then (0, uncode (numM 4611686018427387903 L p).2.1, (numM 4611686018427387903 L p).2.2) else (3, 0, p)) else ((numM 4611686018427387903 L p).1, 0, p) := by
  have h := less_gather (bitsOf L) 13 0 0 p (by omega) (by simp) (by omega)
  unfold intM
  have e1 : ∀ m, numM m L p = if (gatherM m (bitsOf L) 13 0 0 p).1 = 0 then gatherM m (bitsOf L) 13 0 0 p else ((gatherM m (bitsOf L) 13 0 0 p).1, 0, p) := fun _ => rfl
  rw [e1, e1]
  generalize gatherM 4611686018427387903 (bitsOf L) 13 0 0 p = G at h ⊢
  generalize gatherM 2305843009213693952 (bitsOf L) 13 0 0 p = G' at h ⊢
  obtain ⟨h1, h2, h3⟩ := h
  by_cases q : G.1 = 0
  · simp only [q, if_true]
    by_cases r : G.2.1 ≤ 2305843009213693952
    · have := h2 q r
      subst this
      simp only [q, if_true, r]
    · have := h3 q (by omega)
      simp [this, r]
  · have := h1 q
    simp [this, q]
set_option maxRecDepth 100000 in
set_option maxHeartbeats 4000000 in
theorem tint_calls (kt : Nat) (v : Value) (L : List Nat) (p : Nat) (w : World) (h : TpAt w kt v (bitsOf L) p) :
    Calls Try.prog 84 #[.pointer (some ⟨kt, 0, none⟩)] w (TpPost kt v (bitsOf L) ((intM L p).1 : Nat) (intM L p).2.1 (intM L p).2.2 w) := by
  have c1 := h.c1
  have HT : Hid (TpAt w kt v (bitsOf L) p) := h
  clear h
  go_enter Try.func84, Try.ntmps84
  go_wp2_with fail
  refine (tvar_calls kt v L p w HT.out).mono ?_
  rintro e w1 ⟨rfl, hr, o1⟩
  have HI : Hid (intM L p = if (numM 4611686018427387903 L p).1 = 0 then (if (numM 4611686018427387903 L p).2.1 ≤ 2305843009213693952 then (0, uncode (numM 4611686018427387903 L p).2.1, (numM 4611686018427387903 L p).2.2) else (3, 0, p)) else ((numM 4611686018427387903 L p).1, 0, p)) := intM_num L p
  have HM : Hid ((numM 4611686018427387903 L p).2.1 ≤ 4611686018427387903 ∧ ((numM 4611686018427387903 L p).1 ≠ 0 → (numM 4611686018427387903 L p).2.2 = p)) := ⟨numM_most _ _ _, numM_pos _ _ _⟩
  revert HI HM hr
  generalize numM 4611686018427387903 L p = N
  obtain ⟨er, n, q⟩ := N
  intro hr HI HM
  simp only at hr ⊢
  by_cases he : er = 0
  · subst he
    have hn : (n : Int) ≤ 4611686018427387903 := by have := HM.out.1; simp only at this; omega
    by_cases hb : (n : Int) > 2305843009213693952
    · have f1 := hr.free 1; have t1 := hr.c1
      have H2 : Hid (TpPost kt v (bitsOf L) ((intM L p).1 : Nat) (intM L p).2.1 (intM L p).2.2 w (.returned (.tuple #[.int .i64 0, .int .i64 3])) (w1.setCell ⟨kt, 1, none⟩ (.int .i64 ((p : Nat) : Int)))) := by
        rw [HI.out, if_pos rfl, if_neg (by simp only; omega)]
        exact ⟨rfl, hr.put HT.out.pos, o1.setCell (p := ⟨kt, 1, none⟩) (Or.inl (by simp)) _⟩
      clear hr o1 HI HM c1
      go_wp2_with fail
      exact bodyPost_ret (v := .tuple #[.int .i64 0, .int .i64 3]) (by simp [results, Try.results84, go_sem]) rfl H2.out
    · have H2 : Hid (TpPost kt v (bitsOf L) ((intM L p).1 : Nat) (intM L p).2.1 (intM L p).2.2 w (.returned (.tuple #[.int .i64 (uncode n), .int .i64 0])) w1) := by
        rw [HI.out, if_pos rfl, if_pos (by simp only; omega)]
        exact ⟨rfl, hr, o1⟩
      clear hr o1 HI HM c1
      by_cases h2 : n % 2 = 1
      · have hb2 : ¬ (n : Int) % 2 = 0 := by omega
        have hu : uncode n = -((n : Int) / 2) - 1 := by unfold uncode; rw [if_pos h2]; omega
        rw [hu] at H2
        go_wp2_with fail
        exact bodyPost_ret (v := .tuple #[.int .i64 (-((n : Int) / 2) - 1), .int .i64 0]) (by simp [results, Try.results84, go_sem]) rfl H2.out
      · have hb2 : (n : Int) % 2 = 0 := by omega
        have hu : uncode n = (n : Int) / 2 := by unfold uncode; rw [if_neg h2]; omega
        rw [hu] at H2
        go_wp2_with fail
        exact bodyPost_ret (v := .tuple #[.int .i64 ((n : Int) / 2), .int .i64 0]) (by simp [results, Try.results84, go_sem]) rfl H2.out
  · have hei : ¬ ((er : Int) = 0) := by omega
    have H2 : Hid (TpPost kt v (bitsOf L) ((intM L p).1 : Nat) (intM L p).2.1 (intM L p).2.2 w (.returned (.tuple #[.int .i64 0, .int .i64 ((er : Int))])) w1) := by
      rw [HI.out, if_neg he]
      have := HM.out.2 he
      simp only at this
      rw [this] at hr
      exact ⟨rfl, hr, o1⟩
    clear hr o1 HI HM c1
    go_wp2_with fail
    exact bodyPost_ret (v := .tuple #[.int .i64 0, .int .i64 ((er : Int))]) (by simp [results, Try.results84, go_sem]) rfl H2.out
end Go.Proofs.Ytedhdmahdioboaa
