/- Whatever bodies, touches and law are given, SolveSpeeds returns true: solve.Speeds, and whether a law is Right, are the document's answers; no condition. -/
import Derived.Test.YtbfkloclmlnahaaSv18
import Derived.Test.YtbfkloclmlnahaaSvF
namespace Go.Proofs.Ytbfkloclmlnahaa.solveSpeeds
open Go.ChangeShapes Go.WideShapes Go.ChangeAt Go.RowKit Go.Joins Go.Deep SvF
set_option linter.unusedVariables false
section
variable {H : Type} {enc : TypeId × Value → H} {P : Program} {w : World} {base : Nat} {spare : Nat → Bool} {held : Bool}
theorem mk3l {t t' t'' : TypeId} {v v' v'' : Value} {d d' d'' : DataW H} {p p' p'' : List MemPlace} (h : DataW.Trod enc P w base spare held t v d p) (h' : DataW.Trod enc P w base spare held t' v' d' p') (h'' : DataW.Trod enc P w base spare held t'' v'' d'' p'') :
    DataW.TrodAll enc P w base spare held [t, t', t''] [v, v', v''] [d, d', d''] (p ++ p' ++ p'') := by rw [List.append_assoc]; exact trodAll_mk3 h h' h''
end
theorem cellsLaw : Try.prog.cellsOf 73 = 3 := by kernel_rfl
set_option maxHeartbeats 800000 in
set_option maxRecDepth 100000 in
theorem lifted (os : Os) (started : os.Started) (H : Type) (enc : TypeId × Value → H) :
    ReturnsInHanded {} Try.checked os 11 .any (Rows.solveSpeedsSpec.pre6 enc Try.prog Try.f11 Rows.solveSpeedsRow.domain false) (Rows.solveSpeedsSpec.post enc Try.prog Try.f11 false true false false) := by
  refine returnsInHanded_of_change (C := Try.checked) own started (by kernel_rfl) Try.func11
    (ChangeSpec.witness6 (enc := enc) (C := Try.checked) false ⟨#[], #[.slice none 0 0, .slice none 0 0, .agg #[.int .i64 0, .int .i64 0, .int .i64 0]], []⟩ 8 (by kernel_rfl) (by kernel_rfl) (by kernel_rfl) (by kernel_rfl)) ?_
  intro W base args ds gs before hval0 hW hcnd _
  have hval : ∀ (j : Nat) t v, Try.f11.params[j]? = some t → args[j]? = some v → Value.okWide Try.prog W .any base t v := hval0
  have hW' := hW
  obtain ⟨p, q, hA0, hV, rfl, hfz, hnd⟩ := hW
  have hA : DataW.TrodAll enc Try.prog W 0 (fun _ => true) true Try.f11.params.toList args.toList ds p := hA0
  rw [Try.params11] at hA hval
  obtain ⟨v0, v1, v2, d0, d1, d2, q0, q1, q2, rfl, rfl, rfl, h0, h1, h2⟩ := trodAll_three hA
  obtain ⟨rfl, rfl⟩ := trodVars_none hV
  obtain ⟨a0, len, cap, rfl⟩ := okWide_slice Try.underlying70 (hval 0 70 v0 rfl rfl)
  obtain ⟨a1, len1, cap1, rfl⟩ := okWide_slice Try.underlying71 (hval 1 71 v1 rfl rfl)
  have h0k := h0
  have h1k := h1
  have h2k := h2
  obtain ⟨fuel, hf⟩ := h0
  obtain ⟨fuel1, hf1⟩ := h1
  clear hA0 hval0
  simp only [List.append_nil] at hW'
  have hlt : ∀ y ∈ q0, y.block < W.heap.size := fun y hy => by simpa using hW'.lt y (by simp [hy])
  have hlt1 : ∀ y ∈ q1, y.block < W.heap.size := fun y hy => by simpa using hW'.lt y (by simp [hy])
  have hlt2 : ∀ y ∈ q2, y.block < W.heap.size := fun y hy => by simpa using hW'.lt y (by simp [hy])
  have harg0 : ∀ W' : World, Below W.heap.size W W' → DataW.Trod enc Try.prog W' 0 (fun b => decide (b < W.heap.size)) true 70 (.slice a0 len cap) d0 q0 :=
    fun W' hn => Below.trod laidOut (by kernel_rfl) (of_decide_eq_true (by kernel_rfl)) h0k hn hlt
  have harg1 : ∀ W' : World, Below W.heap.size W W' → DataW.Trod enc Try.prog W' 0 (fun b => decide (b < W.heap.size)) true 71 (.slice a1 len1 cap1) d1 q1 :=
    fun W' hn => Below.trod laidOut (by kernel_rfl) (of_decide_eq_true (by kernel_rfl)) h1k hn hlt1
  have harg2 : ∀ W' : World, Below W.heap.size W W' → DataW.Trod enc Try.prog W' 0 (fun b => decide (b < W.heap.size)) true 73 v2 d2 q2 :=
    fun W' hn => Below.trod laidOut (by kernel_rfl) (of_decide_eq_true (by kernel_rfl)) h2k hn hlt2
  have hv2 : ∃ x y z : Int, v2 = .agg #[.int .i64 x, .int .i64 y, .int .i64 z] := by
    obtain ⟨c0, c1, c2, y0, y1, y2, m, e, _, _, hy0, hy1, hy2⟩ := open_agg3 Try.underlying73 (by kernel_rfl) cellsLaw (hval 2 73 v2 rfl rfl) h2
    obtain ⟨x, e0, _, _⟩ := DataW.trod_int Try.underlying3 hy0
    obtain ⟨y, e1, _, _⟩ := DataW.trod_int Try.underlying3 hy1
    obtain ⟨z, e2, _, _⟩ := DataW.trod_int Try.underlying3 hy2
    simp at e0 e1 e2
    subst e0 e1 e2
    exact ⟨x, y, z, e⟩
  obtain ⟨bo, ru, ro, rfl⟩ := hv2
  have hc : Calls Try.prog 11 #[.slice a0 len cap, .slice a1 len1 cap1, .agg #[.int .i64 bo, .int .i64 ru, .int .i64 ro]] W fun e w' => e = .returned (.bool true) ∧ Only [] W w' := by
    obtain ⟨B, hB, hid, hnil⟩ := bodies_open (fuel := fuel) (by simpa [Value.cells] using hf)
    obtain ⟨T, hT⟩ := touches_open (fuel := fuel1) (by simpa [Value.cells] using hf1)
    exact solveSpeeds_calls a0 a1 len cap len1 cap1 B T bo ru ro W hB hnil hT hid
  refine hc.mono fun e W' ⟨he, ho⟩ => ?_
  have hn : Below W.heap.size W W' := ho.below (by simp) (Nat.le_refl _)
  subst he
  exact ⟨_, rfl, _, _, _, [], _, [], hW', trodAll_mk1 (shut_bool Try.underlying4 _), mk3l (harg0 _ hn) (harg1 _ hn) (harg2 _ hn), rfl, hn.frame _, fun h => by cases h⟩

theorem over : Rows.solveSpeedsRow.holds Try.pinned (OpenSpec.ofChange Rows.solveSpeedsSpec) :=
  OpenClaim.holds_of_wide 11 Try.f11 rfl rfl rfl rfl rfl rfl rfl ⟨rfl, rfl, rfl, rfl, rfl⟩ rfl rfl rfl rfl rfl (by kernel_rfl) Try.func11 (by kernel_rfl)
    (of_decide_eq_true (by kernel_rfl)) (by unfold Func.isWrapper; first | (rw [if_pos (by decide +kernel)]; kernel_rfl) | (rw [if_neg (by decide +kernel)]; exact ⟨rfl, rfl⟩))
    (fun os started H enc _ => lifted os started H enc)
theorem proved : Rows.SolveSpeedsSaid := over
end Go.Proofs.Ytbfkloclmlnahaa.solveSpeeds
namespace Go.Proofs.Ytbfkloclmlnahaa
theorem solveSpeeds_holds : Rows.SolveSpeedsSaid := solveSpeeds.proved
#print axioms solveSpeeds_holds
end Go.Proofs.Ytbfkloclmlnahaa
