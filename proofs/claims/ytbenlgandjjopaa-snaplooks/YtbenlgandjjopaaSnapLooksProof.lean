/- Whatever body is given, snap sees of it what the document says: SnapLooks returns true; no condition. -/
import Derived.Test.YtbenlgandjjopaaSl3
import Derived.Lib.SmallJoins
import Derived.Carry
import Derived.Deep.Slices
import Derived.WalkKit
import Derived.ProofKit
import Derived.OpenShut
namespace Go.Proofs.Ytbenlgandjjopaa.snapLooks
open Go.ChangeShapes Go.WideShapes Go.ChangeAt Go.RowKit Go.Joins Go.Deep
set_option linter.unusedVariables false

theorem own : ownKnob Try.prog.godebug = none := by kernel_rfl
theorem laidOut : laidOutB Try.prog = true := by kernel_rfl
theorem cellsInt : Try.prog.cellsOf 3 = 1 := by kernel_rfl
theorem cellsVec : Try.prog.cellsOf 27 = 3 := by kernel_rfl
theorem cellsShape : Try.prog.cellsOf 29 = 4 := by kernel_rfl
theorem cellsBody : Try.prog.cellsOf 31 = 17 := by kernel_rfl
section
variable {H : Type} {P : Program} {enc : TypeId × Value → H} {w : World} {base : Nat} {sp : Nat → Bool} {held : Bool}
theorem trod_struct8 {t : TypeId} {f0 f1 f2 f3 f4 f5 f6 f7 : Field} {fuel : Nat} {cs : List Value} {x : DataW H × List MemPlace} (ht : P.underlying t = some (.struct #[f0, f1, f2, f3, f4, f5, f6, f7])) (h : DataW.trod enc P w base sp held fuel t cs = some x) :
    ∃ y0 y1 y2 y3 y4 y5 y6 y7 n, cs.length = P.cellsOf t ∧ DataW.trod enc P w base sp held n f0.type ((cs.drop f0.offset).take (P.cellsOf f0.type)) = some y0 ∧ DataW.trod enc P w base sp held n f1.type ((cs.drop f1.offset).take (P.cellsOf f1.type)) = some y1 ∧ DataW.trod enc P w base sp held n f2.type ((cs.drop f2.offset).take (P.cellsOf f2.type)) = some y2 ∧ DataW.trod enc P w base sp held n f3.type ((cs.drop f3.offset).take (P.cellsOf f3.type)) = some y3 ∧ DataW.trod enc P w base sp held n f4.type ((cs.drop f4.offset).take (P.cellsOf f4.type)) = some y4 ∧ DataW.trod enc P w base sp held n f5.type ((cs.drop f5.offset).take (P.cellsOf f5.type)) = some y5 ∧ DataW.trod enc P w base sp held n f6.type ((cs.drop f6.offset).take (P.cellsOf f6.type)) = some y6 ∧ DataW.trod enc P w base sp held n f7.type ((cs.drop f7.offset).take (P.cellsOf f7.type)) = some y7 := by
  obtain ⟨xs, n, _, rfl, hl, hlen, hf⟩ := DataW.trod_struct ht h
  match xs, hlen with
  | [y0, y1, y2, y3, y4, y5, y6, y7], _ => exact ⟨y0, y1, y2, y3, y4, y5, y6, y7, n, hl, by simpa using hf 0 f0 rfl, by simpa using hf 1 f1 rfl, by simpa using hf 2 f2 rfl, by simpa using hf 3 f3 rfl, by simpa using hf 4 f4 rfl, by simpa using hf 5 f5 rfl, by simpa using hf 6 f6 rfl, by simpa using hf 7 f7 rfl⟩
end
section
variable {H : Type} {enc : TypeId × Value → H} {w : World} {base : Nat} {sp : Nat → Bool} {held : Bool}
theorem int_open {fuel : Nat} {cs : List Value} {x : DataW H × List MemPlace} (h : DataW.trod enc Try.prog w base sp held fuel 3 cs = some x) : ∃ a, cs = [.int .i64 a] ∧ In64 a := by
  obtain ⟨a, e, _, hw⟩ := DataW.trod_int Try.underlying3 h
  exact ⟨a, e, bounds_i64 hw⟩
set_option maxRecDepth 100000 in
theorem vec_open {fuel : Nat} {cs : List Value} {x : DataW H × List MemPlace} (h : DataW.trod enc Try.prog w base sp held fuel 27 cs = some x) : ∃ a b c, cs = [.int .i64 a, .int .i64 b, .int .i64 c] ∧ In64 a ∧ In64 b ∧ In64 c := by
  obtain ⟨y0, y1, y2, n, rfl, hl, h0, h1, h2⟩ := trod_struct3 Try.underlying27 h
  rw [cellsVec] at hl
  match cs, hl with
  | [c0, c1, c2], _ =>
    simp only [cellsInt] at h0 h1 h2
    obtain ⟨a, e0, i0⟩ := int_open h0
    obtain ⟨b, e1, i1⟩ := int_open h1
    obtain ⟨c, e2, i2⟩ := int_open h2
    simp at e0 e1 e2
    subst e0 e1 e2
    exact ⟨a, b, c, rfl, i0, i1, i2⟩
set_option maxRecDepth 100000 in
theorem shape_open {fuel : Nat} {cs : List Value} {x : DataW H × List MemPlace} (h : DataW.trod enc Try.prog w base sp held fuel 29 cs = some x) : ∃ k a b c, cs = [.int .i64 k, .int .i64 a, .int .i64 b, .int .i64 c] ∧ In64 a ∧ In64 b ∧ In64 c := by
  obtain ⟨y0, y1, n, rfl, hl, h0, h1⟩ := trod_struct2 Try.underlying29 h
  rw [cellsShape] at hl
  match cs, hl with
  | [c0, c1, c2, c3], _ =>
    simp only [cellsInt, cellsVec] at h0 h1
    obtain ⟨k, e0, _⟩ := int_open h0
    obtain ⟨a, b, c, e1, i1⟩ := vec_open h1
    simp at e0 e1
    obtain ⟨rfl, rfl, rfl⟩ := e1
    subst e0
    exact ⟨k, a, b, c, rfl, i1⟩
set_option maxRecDepth 100000 in
theorem body_open {fuel : Nat} {cs : List Value} {x : DataW H × List MemPlace} (h : DataW.trod enc Try.prog w base sp held fuel 31 cs = some x) : ∃ id ow kd sx sy sz ax ay az vx vy vz px py pz ms tm, cs = [.int .i64 id, .int .i64 ow, .int .i64 kd, .int .i64 sx, .int .i64 sy, .int .i64 sz, .int .i64 ax, .int .i64 ay, .int .i64 az, .int .i64 vx, .int .i64 vy, .int .i64 vz, .int .i64 px, .int .i64 py, .int .i64 pz, .int .i64 ms, .int .i64 tm] ∧ flX sx = sx / 256 ∧ flX sy = sy / 256 ∧ flX sz = sz / 256 ∧ flX ax = ax / 256 ∧ flX ay = ay / 256 ∧ flX az = az / 256 ∧ flX vx = vx / 256 ∧ flX vy = vy / 256 ∧ flX vz = vz / 256 := by
  obtain ⟨y0, y1, y2, y3, y4, y5, y6, y7, n, hl, h0, h1, h2, h3, h4, h5, h6, h7⟩ := trod_struct8 Try.underlying31 h
  rw [cellsBody] at hl
  match cs, hl with
  | [c0, c1, c2, c3, c4, c5, c6, c7, c8, c9, c10, c11, c12, c13, c14, c15, c16], _ =>
    simp only [cellsInt, cellsVec, cellsShape] at h0 h1 h2 h3 h4 h5 h6 h7
    obtain ⟨a0, e0, hw⟩ := int_open h0
    obtain ⟨a1, e1, _⟩ := int_open h1
    obtain ⟨s0, s1, s2, s3, e2, i2⟩ := shape_open h2
    obtain ⟨p0, p1, p2, e3, i3⟩ := vec_open h3
    obtain ⟨v0, v1, v2, e4, i4⟩ := vec_open h4
    obtain ⟨u0, u1, u2, e5, _⟩ := vec_open h5
    obtain ⟨a6, e6, _⟩ := int_open h6
    obtain ⟨a7, e7, _⟩ := int_open h7
    simp at e0 e1 e2 e3 e4 e5 e6 e7
    obtain ⟨rfl, rfl, rfl, rfl⟩ := e2
    obtain ⟨rfl, rfl, rfl⟩ := e3
    obtain ⟨rfl, rfl, rfl⟩ := e4
    obtain ⟨rfl, rfl, rfl⟩ := e5
    subst e0 e1 e6 e7
    exact ⟨a0, a1, s0, s1, s2, s3, p0, p1, p2, v0, v1, v2, u0, u1, u2, a6, a7, rfl, flX_eq i2.1, flX_eq i2.2.1, flX_eq i2.2.2, flX_eq i3.1, flX_eq i3.2.1, flX_eq i3.2.2, flX_eq i4.1, flX_eq i4.2.1, flX_eq i4.2.2⟩
end
set_option maxHeartbeats 800000 in
set_option maxRecDepth 100000 in
theorem lifted (os : Os) (started : os.Started) (H : Type) (enc : TypeId × Value → H) :
    ReturnsInHanded {} Try.checked os 4 .any (Rows.snapLooksSpec.pre6 enc Try.prog Try.f4 Rows.snapLooksRow.domain false) (Rows.snapLooksSpec.post enc Try.prog Try.f4 false true false false) := by
  refine returnsInHanded_of_change (C := Try.checked) own started (by kernel_rfl) Try.func4
    (ChangeSpec.witness6 (enc := enc) (C := Try.checked) false ⟨#[], #[.agg #[.int .i64 0, .int .i64 0, .int .i64 0, .int .i64 0, .int .i64 0, .int .i64 0, .int .i64 0, .int .i64 0, .int .i64 0, .int .i64 0, .int .i64 0, .int .i64 0, .int .i64 0, .int .i64 0, .int .i64 0, .int .i64 0, .int .i64 0]], []⟩ 8 (by kernel_rfl) (by kernel_rfl) (by kernel_rfl) (by kernel_rfl)) ?_
  intro W base args ds gs before hval0 hW hcnd _
  have hval : ∀ (j : Nat) t v, Try.f4.params[j]? = some t → args[j]? = some v → Value.okWide Try.prog W .any base t v := hval0
  have hW' := hW
  obtain ⟨p, q, hA0, hV, rfl, hfz, hnd⟩ := hW
  have hA : DataW.TrodAll enc Try.prog W 0 (fun _ => true) true Try.f4.params.toList args.toList ds p := hA0
  rw [Try.params4] at hA hval
  obtain ⟨v0, d0, rfl, rfl, h0⟩ := trodAll_one hA
  obtain ⟨rfl, rfl⟩ := trodVars_none hV
  have h0k := h0
  obtain ⟨cs, rfl, _⟩ := okWide_struct Try.underlying31 (hval 0 31 v0 rfl rfl)
  obtain ⟨fuel, hf⟩ := h0
  obtain ⟨id, ow, kd, sx, sy, sz, ax, ay, az, vx, vy, vz, px, py, pz, ms, tm, ecs, hfl⟩ := body_open hf
  have ev : cs = #[.int .i64 id, .int .i64 ow, .int .i64 kd, .int .i64 sx, .int .i64 sy, .int .i64 sz, .int .i64 ax, .int .i64 ay, .int .i64 az, .int .i64 vx, .int .i64 vy, .int .i64 vz, .int .i64 px, .int .i64 py, .int .i64 pz, .int .i64 ms, .int .i64 tm] := Array.ext' ecs
  clear hA0 hval0
  simp only [List.append_nil] at hW'
  have hlt : ∀ y ∈ p, y.block < W.heap.size := fun y hy => by simpa using hW'.lt y (by simp [hy])
  have harg0 : ∀ W' : World, Below W.heap.size W W' → DataW.Trod enc Try.prog W' 0 (fun b => decide (b < W.heap.size)) true 31 (.agg cs) d0 p :=
    fun W' hn => Below.trod laidOut (by kernel_rfl) (of_decide_eq_true (by kernel_rfl)) h0k hn hlt
  have hc : Calls Try.prog 4 #[.agg cs] W fun e w' => e = .returned (.bool true) ∧ Kept W w' := by
    rw [ev]
    exact snapLooks_calls id ow kd sx sy sz ax ay az vx vy vz px py pz ms tm W hfl
  refine hc.mono fun e W' ⟨he, ho⟩ => ?_
  have hn : Below W.heap.size W W' := ho.below
  subst he
  exact ⟨_, rfl, _, _, _, [], _, [], hW', trodAll_mk1 (shut_bool Try.underlying4 _), trodAll_mk1 (harg0 _ hn), rfl, hn.frame _, fun h => by cases h⟩

theorem over : Rows.snapLooksRow.holds Try.pinned (OpenSpec.ofChange Rows.snapLooksSpec) :=
  OpenClaim.holds_of_wide 4 Try.f4 rfl rfl rfl rfl rfl rfl rfl ⟨rfl, rfl, rfl, rfl, rfl⟩ rfl rfl rfl rfl rfl (by kernel_rfl) Try.func4 (by kernel_rfl)
    (of_decide_eq_true (by kernel_rfl)) (by unfold Func.isWrapper; first | (rw [if_pos (by decide +kernel)]; kernel_rfl) | (rw [if_neg (by decide +kernel)]; exact ⟨rfl, rfl⟩))
    (fun os started H enc _ => lifted os started H enc)
end Go.Proofs.Ytbenlgandjjopaa.snapLooks
namespace Go.Proofs.Ytbenlgandjjopaa
theorem snapLooks_holds : Rows.SnapLooksSaid := snapLooks.over
#print axioms snapLooks_holds
end Go.Proofs.Ytbenlgandjjopaa
