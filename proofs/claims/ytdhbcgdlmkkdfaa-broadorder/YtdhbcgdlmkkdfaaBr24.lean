/- gyrekeep.pick and hung: a number below another one; two boxes that meet. -/
import Derived.Test.YtdhbcgdlmkkdfaaBr23
import Derived.ChangeKeysEq
namespace Go.Proofs.Ytdhbcgdlmkkdfaa
open Go.ChangeShapes Go.WideShapes Go.ChangeAt Go.RowKit Go.Sort Go.Shelf Go.Lib
set_option linter.unusedVariables false
set_option linter.unusedSimpArgs false

theorem pick_calls (a n : Int) (w : World) (h0 : 0 < n) (h1 : n ≤ 1000) : Calls Try.prog 6 #[.int .i64 a, .int .i64 n] w fun e w' => ∃ p, e = .returned (.int .i64 p) ∧ 0 ≤ p ∧ p < n ∧ w' = w := by
  have hn : n ≠ 0 := by omega
  go_enter Try.func6, Try.ntmps6
  go_wp2_with fail
  go_ret
  have hu : 0 ≤ IntKind.u64.wrap a := by show 0 ≤ a % _; exact Int.emod_nonneg _ (by decide)
  have e1 : (IntKind.u64.wrap a).tmod n = IntKind.u64.wrap a % n := Int.tmod_eq_emod_of_nonneg hu
  have e2 := Int.emod_nonneg (IntKind.u64.wrap a) hn
  have e3 := Int.emod_lt_of_pos (IntKind.u64.wrap a) h0
  have e4 : wrap64 ((IntKind.u64.wrap a).tmod n) = IntKind.u64.wrap a % n := by rw [e1]; unfold wrap64; omega
  exact ⟨_, rfl, by rw [e4]; exact e2, by rw [e4]; exact e3, rfl⟩

theorem equalIn_int (d : Nat) (a b : Int) (w : World) : (Op.equalIn (d + 1) 3 (.int .i64 a) (.int .i64 b)).run Try.prog w = .ok (a == b) w := by
  simp [Op.equalIn, run_underlying Try.underlying3]
theorem partInt (xs : Array Value) (i : Nat) (w : World) (x : Int) (h : xs[i]? = some (.int .i64 x)) : (part 3 xs i).run Try.prog w = .ok (.int .i64 x) w := by
  have ha : (isAgg 3).run Try.prog w = .ok false w := by kernel_rfl
  simp [part, ha, h]
theorem pair_equal (a b c d : Int) (w : World) : (Op.equalIn 10000 38 (.agg #[.int .i64 a, .int .i64 b]) (.agg #[.int .i64 c, .int .i64 d])).run Try.prog w = .ok ((a == c) && (b == d)) w := by
  obtain ⟨i, hi, _⟩ := info_parts intInfo
  have hc : Try.prog.cellsOf 3 = 1 := by kernel_rfl
  rw [show (10000 : Nat) = 9999 + 1 from rfl, run_equalIn_array w 9999 _ _ Try.underlying38 hi]
  rw [show List.range 2 = [0, 1] from rfl, hc]
  simp only [Op.eqItems, Sem.run_bind, Nat.zero_mul, Nat.one_mul]
  rw [partInt _ 0 w a rfl]
  simp only [Result.andThen_ok]
  rw [partInt _ 0 w c rfl]
  simp only [Result.andThen_ok]
  rw [show (9999 : Nat) = 9998 + 1 from rfl, equalIn_int 9998 a c w]
  simp only [Result.andThen_ok]
  by_cases h : a = c
  · subst h
    simp only [beq_self_eq_true, Bool.not_true, Bool.false_eq_true, if_false, Bool.true_and, Sem.run_bind]
    rw [partInt _ 1 w b rfl]
    simp only [Result.andThen_ok]
    rw [partInt _ 1 w d rfl]
    simp only [Result.andThen_ok]
    rw [equalIn_int 9998 b d w]
    simp only [Result.andThen_ok]
    by_cases h2 : b = d
    · subst h2; simp
    · simp [h2]
  · simp [h]
def q7 : Bx := ⟨0, 0, 0, 9, 9, 9⟩
def q3 : Bx := ⟨9, 0, 0, 12, 0, 0⟩
theorem right7 : rightC q7 = 0 := by decide
theorem right3 : rightC q3 = 0 := by decide
theorem put7 : putC [] 7 q7 = 0 ∧ putM [] 7 q7 = [(7, q7)] := by
  have e : putC [] 7 q7 = 0 := by unfold putC; rw [if_pos right7]; simp
  exact ⟨e, by unfold putM; rw [if_pos e]; rfl⟩
theorem put3 : putC [(7, q7)] 3 q3 = 0 ∧ putM [(7, q7)] 3 q3 = [(3, q3), (7, q7)] := by
  have e : putC [(7, q7)] 3 q3 = 0 := by unfold putC; rw [if_pos right3]; simp
  exact ⟨e, by unfold putM; rw [if_pos e]; rfl⟩
theorem pairs37 : pairsM [(3, q3), (7, q7)] = [(3, 7)] := by
  have e : [(3, q3), (7, q7)].flatMap (pairM [(3, q3), (7, q7)]) = [((3 : Int), (7 : Int))] := by decide
  unfold pairsM
  rw [e]
  simp [sort2]
set_option maxRecDepth 100000 in
theorem hung_calls (w : World) : Calls Try.prog 4 #[] w fun e w' => e = .returned (.bool true) ∧ Only [] w w' := by
  go_enter Try.func4, Try.ntmps4
  go_wp2_with fail
  refine (new_calls 5 _ (by omega) (by omega)).mono ?_
  rintro e w1 ⟨t, rfl, h1, ht, o1⟩
  have H1 : Hid (TreeIs w1 t 5 [t] [] ∧ w.heap.size ≤ t ∧ Only [] w w1) := ⟨h1, ht, o1⟩
  clear h1 ht o1
  go_wp2_with fail
  have hp7 := put_calls t 5 [t] [] 7 q7 w1 H1.out.1 (by unfold In64; decide)
  rw [put7.1, put7.2] at hp7
  refine Calls.mono hp7 ?_
  rintro e w2 ⟨rfl, D2, h2, s2, o2⟩
  have H2 : Hid (TreeIs w2 t 5 D2 [(7, q7)] ∧ Only [] w w2 ∧ (∀ b ∈ D2, w.heap.size ≤ b)) := ⟨h2, H1.out.2.2.then o2 (fun b hb => by simp at hb; subst hb; exact Or.inr H1.out.2.1), fun b hb => by
    rcases s2 b hb with q | q
    · simp at q; subst q; exact H1.out.2.1
    · exact Nat.le_trans H1.out.2.2.size q⟩
  clear h2 s2 o2 hp7
  simp only [errV, if_true]
  go_wp2_with fail
  have hp3 := put_calls t 5 D2 [(7, q7)] 3 q3 w2 H2.out.1 (by unfold In64; decide)
  rw [put3.1, put3.2] at hp3
  refine Calls.mono hp3 ?_
  rintro e w3 ⟨rfl, D3, h3, s3, o3⟩
  have H3 : Hid (TreeIs w3 t 5 D3 [(3, q3), (7, q7)] ∧ Only [] w w3) := ⟨h3, H2.out.2.1.then o3 (fun b hb => Or.inr (H2.out.2.2 b hb))⟩
  clear h3 s3 o3 hp3
  simp only [errV, if_true]
  go_wp2_with fail
  have hpp := pairs_calls t 5 D3 _ w3 H3.out.1
  rw [pairs37] at hpp
  refine Calls.mono hpp ?_
  rintro e w4 ⟨v, rfl, hs, o4, hn⟩
  obtain ⟨a, c, rfl, hsh⟩ := hs.shape
  obtain ⟨g, rfl, c0, c1⟩ := hsh 0 (by simp)
  simp only [List.length_cons, List.length_nil, Nat.zero_mul, Nat.zero_add, List.getElem_cons_zero] at c0 c1 ⊢
  have H4 : Hid (Only [] w w4) := H3.out.2.trans o4
  have heq := pair_equal 3 7 3 7 w4
  simp only [beq_self_eq_true, Bool.and_true] at heq
  clear hs hsh o4 hn hpp
  go_wp2_with fail
  go_ret
  exact ⟨rfl, H4.out⟩
end Go.Proofs.Ytdhbcgdlmkkdfaa
