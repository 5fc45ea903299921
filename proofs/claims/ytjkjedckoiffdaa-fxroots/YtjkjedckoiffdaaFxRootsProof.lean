/- Whatever two ints are given: a root is a root, a product hangs on no order: FxRoots returns true; no condition. -/
import Derived.Test.YtjkjedckoiffdaaRoots
import Derived.WalkKit
import Derived.ProofKit
import Derived.OpenShut
namespace Go.Proofs.Ytjkjedckoiffdaa.fxRoots
open Go.ChangeShapes Go.WideShapes Go.ChangeAt Go.RowKit
set_option linter.unusedVariables false      -- a walk need not use every 'w<i>' (that an integer argument fits its kind)

theorem own : ownKnob Try.prog.godebug = none := by kernel_rfl

theorem mul_fact : mul 196608 32768 = 98304 := by
  unfold mul; rw [cut_in (n := 196608) (by omega) (by omega), cut_in (n := 32768) (by omega) (by omega)]
  rw [show (196608 * 32768 : Int) = 98304 * 65536 by omega, Int.mul_tdiv_cancel _ (by omega), cut_in (by omega) (by omega)]
theorem div_fact : div 65536 131072 = 32768 := by
  have e : cut 131072 = 131072 := cut_in (by omega) (by omega)
  rw [div_else (by rw [e]; omega), e, cut_in (n := 65536) (by omega) (by omega)]
  rw [show (65536 * 65536 : Int) = 32768 * 131072 by omega, Int.mul_tdiv_cancel _ (by omega), cut_in (by omega) (by omega)]
theorem root_fact : root 262144 = 131072 := by
  have e : cut 262144 = 262144 := cut_in (by omega) (by omega)
  exact root_eq (by rw [e]; omega) (by omega) (by rw [e]; omega) (by rw [e]; omega)

theorem counted_calls (w : World) : Calls Try.prog 32 #[] w fun e w' => e = .returned (.bool true) ∧ Kept w w' := by
  have f1 := mul_fact; have f2 := div_fact; have f3 := root_fact
  go_enter Try.func32, Try.ntmps32
  go_wp2_with fail
  refine (mul_calls _ _ _).mono ?_; rintro e w1 ⟨rfl, k1⟩
  rw [f1]
  go_wp2_with fail
  refine (div_calls _ _ _).mono ?_; rintro e w2 ⟨rfl, k2⟩
  rw [f2]
  go_wp2_with fail
  refine (root_calls _ _).mono ?_; rintro e w3 ⟨rfl, k3⟩
  rw [f3]
  go_wp2_with fail
  go_ret
  exact ⟨rfl, kept_three k1 k2 k3⟩

def RootOf (n : Int) : Prop := 0 ≤ root n ∧ root n ≤ 2147483648 ∧ 0 ≤ root n * root n ∧ root n * root n ≤ n * 65536 ∧ n * 65536 < (root n + 1) * (root n + 1) ∧ (root n + 1) * (root n + 1) ≤ 4611686022722355201
theorem size_ways (a : Int) : (cut a < 0 ∧ RootOf (-cut a)) ∨ (0 ≤ cut a ∧ RootOf (cut a)) := by
  have c1 := cut_le a; have c2 := cut_ge a
  by_cases c : cut a < 0
  · exact .inl ⟨c, root_facts (by omega) (by omega)⟩
  · exact .inr ⟨by omega, root_facts (by omega) (by omega)⟩

/-! ### STEP 1: THE WALK: the Go text returns true. 'Grown w w'': the world has at most new blocks (Derived/RowKit3.lean). Part the cases AHEAD of 'go_enter' where a test parts the walk; take each callee by a contract of your own. -/
theorem walk (a0 : Int) (a1 : Int) (w0 : (Lit.int .i64 a0).wf = true) (w1 : (Lit.int .i64 a1).wf = true) (w : World) :
    Calls Try.prog 5 #[.int .i64 a0, .int .i64 a1] w fun e w' => e = .returned (.bool true) ∧ Grown w w' := by
  have c1 := cut_le a0; have c2 := cut_ge a0
  obtain ⟨m1, m2⟩ := mul_bounds a0 a1
  obtain ⟨s1, s2⟩ := sub_bounds a1 a0
  rcases size_ways a0 with ⟨c, r1, r2, r3, r4, r5, r6⟩ | ⟨c, r1, r2, r3, r4, r5, r6⟩
  all_goals
    go_enter Try.func5, Try.ntmps5
    go_wp2_with fail
    refine (counted_calls _).mono ?_; rintro e w1 ⟨rfl, k1⟩
    go_wp2_with fail
    refine (cut_calls _ _).mono ?_; rintro e w2 ⟨rfl, k2⟩
    go_wp2_with fail
    refine (root_calls _ _).mono ?_; rintro e w3 ⟨rfl, k3⟩
    go_wp2_with fail
    refine (mul_calls _ _ _).mono ?_; rintro e w4 ⟨rfl, k4⟩
    go_wp2_with fail
    refine (mul_calls _ _ _).mono ?_; rintro e w5 ⟨rfl, k5⟩
    rw [mul_swap a1 a0]
    go_wp2_with fail
    refine (cut_calls _ _).mono ?_; rintro e w6 ⟨rfl, k6⟩
    go_wp2_with fail
    refine (mul_calls _ _ _).mono ?_; rintro e w7 ⟨rfl, k7⟩
    rw [mul_neg a0 a1]
    go_wp2_with fail
    refine (mul_calls _ _ _).mono ?_; rintro e w8 ⟨rfl, k8⟩
    go_wp2_with fail
    refine (sub_calls _ _ _).mono ?_; rintro e w9 ⟨rfl, k9⟩
    rw [sub_swap a0 a1]
    go_wp2_with fail
    refine (sub_calls _ _ _).mono ?_; rintro e w10 ⟨rfl, k10⟩
    go_wp2_with fail
    go_ret
    exact ⟨rfl, (kept_two (kept_three (kept_three k1 k2 k3) (kept_three k4 k5 k6) (kept_three k7 k8 k9)) k10).grown⟩

/-! ### THE ROW's STEP: WRITTEN OUT: LEAVE IT -/
set_option maxRecDepth 100000 in
theorem lifted (os : Os) (started : os.Started) (H : Type) (enc : TypeId × Value → H) :
    ReturnsInHanded {} Try.checked os 5 .any (Rows.fxRootsSpec.pre6 enc Try.prog Try.f5 Rows.fxRootsRow.domain false) (Rows.fxRootsSpec.post enc Try.prog Try.f5 false true false false) := by
  refine returnsInHanded_of_change (C := Try.checked) own started (by kernel_rfl) Try.func5
    (ChangeSpec.witness6 (enc := enc) (C := Try.checked) false ⟨#[], #[.int .i64 0, .int .i64 0], []⟩ 8 (by kernel_rfl) (by kernel_rfl) (by kernel_rfl) (by kernel_rfl)) ?_
  intro W base args ds gs before hval0 hW hcnd _
  have hval : ∀ (j : Nat) t v, Try.f5.params[j]? = some t → args[j]? = some v → Value.okWide Try.prog W .any base t v := hval0
  have hW' := hW
  obtain ⟨p, q, hA0, hV, rfl, hfz, hnd⟩ := hW
  have hA : DataW.TrodAll enc Try.prog W 0 (fun _ => true) true Try.f5.params.toList args.toList ds p := hA0
  rw [Try.params5] at hA hval
  obtain ⟨v0, vs0, d0, ds0, p0, q0, hargs, rfl, rfl, h0, r0⟩ := trodAll_cons hA
  obtain ⟨v1, vs1, d1, ds1, p1, q1, rfl, rfl, rfl, h1, r1⟩ := trodAll_cons r0
  obtain ⟨rfl, rfl, rfl⟩ := trodAll_nil r1
  obtain rfl : args = #[v0, v1] := by cases args; simp_all
  obtain ⟨rfl, rfl⟩ := trodVars_none hV
  obtain ⟨a0, rfl, rfl, rfl, w0⟩ := open_int Try.underlying3 (hval 0 3 v0 rfl rfl) h0
  obtain ⟨a1, rfl, rfl, rfl, w1⟩ := open_int Try.underlying3 (hval 1 3 v1 rfl rfl) h1
  clear hA0 hval0
  simp only [List.append_nil] at hW'
  refine (walk a0 a1 w0 w1 W).mono fun e W' ⟨he, hg⟩ => ?_
  subst he
  exact ⟨_, rfl, post_of_same (pa := []) (pv := []) hW' (fun _ _ _ => (trodAll_cons_mk (shut_bool Try.underlying4 _) trodAll_mk0)) (fun sp _ => (trodAll_cons_mk (shut_int Try.underlying3 w0) (trodAll_cons_mk (shut_int Try.underlying3 w1) trodAll_mk0))) (fun _ _ => rfl) rfl
    (hg.frame _) hg.2.1 (ok_one (by kernel_rfl) rfl (okWide_bool_mk Try.underlying4 _))⟩

theorem over : Rows.fxRootsRow.holds Try.pinned (OpenSpec.ofChange Rows.fxRootsSpec) :=
  OpenClaim.holds_of_wide 5 Try.f5 rfl rfl rfl rfl rfl rfl rfl ⟨rfl, rfl, rfl, rfl, rfl⟩ rfl rfl rfl rfl rfl (by kernel_rfl) Try.func5 (by kernel_rfl)
    (of_decide_eq_true (by kernel_rfl)) (by unfold Func.isWrapper; first | (rw [if_pos (by decide +kernel)]; kernel_rfl) | (rw [if_neg (by decide +kernel)]; exact ⟨rfl, rfl⟩))
    (fun os started H enc _ => lifted os started H enc)

/-- ████ THE STATEMENT ████ -/
theorem proved : Rows.FxRootsSaid :=
  over
end Go.Proofs.Ytjkjedckoiffdaa.fxRoots
namespace Go.Proofs.Ytjkjedckoiffdaa
theorem fxRoots_holds : Rows.FxRootsSaid := fxRoots.proved
#print axioms fxRoots_holds
end Go.Proofs.Ytjkjedckoiffdaa
