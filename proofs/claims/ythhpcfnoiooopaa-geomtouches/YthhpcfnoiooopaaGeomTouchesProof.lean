/- Whatever two shapes and places are given, if both shapes are Right, geom says whether they touch, which way, and how deep, as the document does: GeomTouches returns true; no condition. -/
import Derived.Test.YthhpcfnoiooopaaGeo22
import Derived.Test.YthhpcfnoiooopaaFrame
import Derived.WalkKit
import Derived.ProofKit
import Derived.OpenShut
namespace Go.Proofs.Ythhpcfnoiooopaa.geomTouches
open Go.ChangeShapes Go.WideShapes Go.ChangeAt Go.RowKit Go.Joins
set_option linter.unusedVariables false

theorem own : ownKnob Try.prog.godebug = none := by kernel_rfl

set_option maxRecDepth 100000 in
theorem lifted (os : Os) (started : os.Started) (H : Type) (enc : TypeId × Value → H) :
    ReturnsInHanded {} Try.checked os 8 .any (Rows.geomTouchesSpec.pre6 enc Try.prog Try.f8 Rows.geomTouchesRow.domain false) (Rows.geomTouchesSpec.post enc Try.prog Try.f8 false true false false) := by
  refine returnsInHanded_of_change (C := Try.checked) own started (by kernel_rfl) Try.func8
    (ChangeSpec.witness6 (enc := enc) (C := Try.checked) false ⟨#[], #[.agg #[.int .i64 0, .int .i64 0, .int .i64 0, .int .i64 0], .agg #[.int .i64 0, .int .i64 0, .int .i64 0], .agg #[.int .i64 0, .int .i64 0, .int .i64 0, .int .i64 0], .agg #[.int .i64 0, .int .i64 0, .int .i64 0]], []⟩ 8 (by kernel_rfl) (by kernel_rfl) (by kernel_rfl) (by kernel_rfl)) ?_
  intro W base args ds gs before hval0 hW hcnd _
  have hval : ∀ (j : Nat) t v, Try.f8.params[j]? = some t → args[j]? = some v → Value.okWide Try.prog W .any base t v := hval0
  have hW' := hW
  obtain ⟨p, q, hA0, hV, rfl, hfz, hnd⟩ := hW
  have hA : DataW.TrodAll enc Try.prog W 0 (fun _ => true) true Try.f8.params.toList args.toList ds p := hA0
  rw [Try.params8] at hA hval
  obtain ⟨v0, v1, v2, v3, d0, d1, d2, d3, q0, q1, q2, q3, rfl, rfl, rfl, h0, h1, h2, h3⟩ := trodAll_four hA
  obtain ⟨rfl, rfl⟩ := trodVars_none hV
  obtain ⟨ka, xa, ya, za, rfl, rfl, rfl, i0⟩ := arg_shape (hval 0 50 v0 rfl rfl) h0
  obtain ⟨x0, x1, x2, rfl, rfl, rfl, i1⟩ := arg_vec (hval 1 26 v1 rfl rfl) h1
  obtain ⟨kb, xb, yb, zb, rfl, rfl, rfl, i2⟩ := arg_shape (hval 2 50 v2 rfl rfl) h2
  obtain ⟨y0, y1, y2, rfl, rfl, rfl, i3⟩ := arg_vec (hval 3 26 v3 rfl rfl) h3
  clear hA0 hval0
  simp only [List.append_nil] at hW'
  refine (geomTouches_calls ka xa ya za x0 x1 x2 kb xb yb zb y0 y1 y2 W).mono fun e W' ⟨he, hg0⟩ => ?_
  have hg := hg0.grown
  subst he
  exact ⟨_, rfl, post_of_same (pa := []) (pv := []) hW' (fun _ _ _ => (trodAll_mk1 (shut_bool Try.underlying4 _))) (fun sp _ => trodAll_mk4 (put_shape i0) (put_vec i1) (put_shape i2) (put_vec i3)) (fun _ _ => rfl) rfl
    (hg.frame _) hg.2.1 (ok_one (by kernel_rfl) rfl (okWide_bool_mk Try.underlying4 _))⟩

theorem over : Rows.geomTouchesRow.holds Try.pinned (OpenSpec.ofChange Rows.geomTouchesSpec) :=
  OpenClaim.holds_of_wide 8 Try.f8 rfl rfl rfl rfl rfl rfl rfl ⟨rfl, rfl, rfl, rfl, rfl⟩ rfl rfl rfl rfl rfl (by kernel_rfl) Try.func8 (by kernel_rfl)
    (of_decide_eq_true (by kernel_rfl)) (by unfold Func.isWrapper; first | (rw [if_pos (by decide +kernel)]; kernel_rfl) | (rw [if_neg (by decide +kernel)]; exact ⟨rfl, rfl⟩))
    (fun os started H enc _ => lifted os started H enc)

theorem proved : Rows.GeomTouchesSaid :=
  over
end Go.Proofs.Ythhpcfnoiooopaa.geomTouches
namespace Go.Proofs.Ythhpcfnoiooopaa
theorem geomTouches_holds : Rows.GeomTouchesSaid := geomTouches.proved
#print axioms geomTouches_holds
end Go.Proofs.Ythhpcfnoiooopaa
