/- How bodies and touches that came in lie in memory. -/
import Derived.Test.YtpegjobehdihbaaSv9
import Derived.Lib.SmallJoins
import Derived.Carry
import Derived.Deep.Slices
import Derived.WalkKit
import Derived.ProofKit
import Derived.OpenShut
namespace Go.Proofs.Ytpegjobehdihbaa.SvF
open Go.ChangeShapes Go.WideShapes Go.ChangeAt Go.RowKit Go.Joins Go.Deep
set_option linter.unusedVariables false

theorem own : ownKnob Try.prog.godebug = none := by kernel_rfl
theorem laidOut : laidOutB Try.prog = true := by kernel_rfl
theorem cellsInt : Try.prog.cellsOf 3 = 1 := by kernel_rfl
theorem cellsVec : Try.prog.cellsOf 26 = 3 := by kernel_rfl
theorem cellsShape : Try.prog.cellsOf 28 = 4 := by kernel_rfl
theorem cellsBody : Try.prog.cellsOf 30 = 17 := by kernel_rfl
theorem cellsTouch : Try.prog.cellsOf 34 = 6 := by kernel_rfl
section
variable {H : Type} {P : Program} {enc : TypeId × Value → H} {w : World} {base : Nat} {sp : Nat → Bool} {held : Bool}
theorem trod_struct8 {t : TypeId} {f0 f1 f2 f3 f4 f5 f6 f7 : Field} {fuel : Nat} {cs : List Value} {x : DataW H × List MemPlace} (ht : P.underlying t = some (.struct #[f0, f1, f2, f3, f4, f5, f6, f7])) (h : DataW.trod enc P w base sp held fuel t cs = some x) :
    ∃ y0 y1 y2 y3 y4 y5 y6 y7 n, cs.length = P.cellsOf t ∧ DataW.trod enc P w base sp held n f0.type ((cs.drop f0.offset).take (P.cellsOf f0.type)) = some y0 ∧ DataW.trod enc P w base sp held n f1.type ((cs.drop f1.offset).take (P.cellsOf f1.type)) = some y1 ∧ DataW.trod enc P w base sp held n f2.type ((cs.drop f2.offset).take (P.cellsOf f2.type)) = some y2 ∧ DataW.trod enc P w base sp held n f3.type ((cs.drop f3.offset).take (P.cellsOf f3.type)) = some y3 ∧ DataW.trod enc P w base sp held n f4.type ((cs.drop f4.offset).take (P.cellsOf f4.type)) = some y4 ∧ DataW.trod enc P w base sp held n f5.type ((cs.drop f5.offset).take (P.cellsOf f5.type)) = some y5 ∧ DataW.trod enc P w base sp held n f6.type ((cs.drop f6.offset).take (P.cellsOf f6.type)) = some y6 ∧ DataW.trod enc P w base sp held n f7.type ((cs.drop f7.offset).take (P.cellsOf f7.type)) = some y7 := by
  obtain ⟨xs, n, _, rfl, hl, hlen, hf⟩ := DataW.trod_struct ht h
  match xs, hlen with
  | [y0, y1, y2, y3, y4, y5, y6, y7], _ => exact ⟨y0, y1, y2, y3, y4, y5, y6, y7, n, hl, by simpa using hf 0 f0 rfl, by simpa using hf 1 f1 rfl, by simpa using hf 2 f2 rfl, by simpa using hf 3 f3 rfl, by simpa using hf 4 f4 rfl, by simpa using hf 5 f5 rfl, by simpa using hf 6 f6 rfl, by simpa using hf 7 f7 rfl⟩
end
section
variable {H : Type} {enc : TypeId × Value → H} {w : World} {base : Nat} {sp : Nat → Bool} {held : Bool}
theorem int_open {fuel : Nat} {cs : List Value} {x : DataW H × List MemPlace} (h : DataW.trod enc Try.prog w base sp held fuel 3 cs = some x) : ∃ a, cs = [.int .i64 a] ∧ (Lit.int .i64 a).wf = true := by
  obtain ⟨a, e, _, hw⟩ := DataW.trod_int Try.underlying3 h
  exact ⟨a, e, hw⟩
set_option maxRecDepth 100000 in
theorem vec_open {fuel : Nat} {cs : List Value} {x : DataW H × List MemPlace} (h : DataW.trod enc Try.prog w base sp held fuel 26 cs = some x) : ∃ a b c, cs = [.int .i64 a, .int .i64 b, .int .i64 c] := by
  obtain ⟨y0, y1, y2, n, rfl, hl, h0, h1, h2⟩ := trod_struct3 Try.underlying26 h
  rw [cellsVec] at hl
  match cs, hl with
  | [c0, c1, c2], _ =>
    simp only [cellsInt] at h0 h1 h2
    obtain ⟨a, e0, _⟩ := int_open h0
    obtain ⟨b, e1, _⟩ := int_open h1
    obtain ⟨c, e2, _⟩ := int_open h2
    simp at e0 e1 e2
    subst e0 e1 e2
    exact ⟨a, b, c, rfl⟩
set_option maxRecDepth 100000 in
theorem shape_open {fuel : Nat} {cs : List Value} {x : DataW H × List MemPlace} (h : DataW.trod enc Try.prog w base sp held fuel 28 cs = some x) : ∃ k a b c, cs = [.int .i64 k, .int .i64 a, .int .i64 b, .int .i64 c] := by
  obtain ⟨y0, y1, n, rfl, hl, h0, h1⟩ := trod_struct2 Try.underlying28 h
  rw [cellsShape] at hl
  match cs, hl with
  | [c0, c1, c2, c3], _ =>
    simp only [cellsInt, cellsVec] at h0 h1
    obtain ⟨k, e0, _⟩ := int_open h0
    obtain ⟨a, b, c, e1⟩ := vec_open h1
    simp at e0 e1
    obtain ⟨rfl, rfl, rfl⟩ := e1
    subst e0
    exact ⟨k, a, b, c, rfl⟩
set_option maxRecDepth 100000 in
theorem body_open {fuel : Nat} {cs : List Value} {x : DataW H × List MemPlace} (h : DataW.trod enc Try.prog w base sp held fuel 30 cs = some x) : ∃ q : Bd, In64S q.id ∧ cs = bdL q := by
  obtain ⟨y0, y1, y2, y3, y4, y5, y6, y7, n, hl, h0, h1, h2, h3, h4, h5, h6, h7⟩ := trod_struct8 Try.underlying30 h
  rw [cellsBody] at hl
  match cs, hl with
  | [c0, c1, c2, c3, c4, c5, c6, c7, c8, c9, c10, c11, c12, c13, c14, c15, c16], _ =>
    simp only [cellsInt, cellsVec, cellsShape] at h0 h1 h2 h3 h4 h5 h6 h7
    obtain ⟨a0, e0, hw⟩ := int_open h0
    obtain ⟨a1, e1, _⟩ := int_open h1
    obtain ⟨s0, s1, s2, s3, e2⟩ := shape_open h2
    obtain ⟨p0, p1, p2, e3⟩ := vec_open h3
    obtain ⟨v0, v1, v2, e4⟩ := vec_open h4
    obtain ⟨u0, u1, u2, e5⟩ := vec_open h5
    obtain ⟨a6, e6, _⟩ := int_open h6
    obtain ⟨a7, e7, _⟩ := int_open h7
    simp at e0 e1 e2 e3 e4 e5 e6 e7
    obtain ⟨rfl, rfl, rfl, rfl⟩ := e2
    obtain ⟨rfl, rfl, rfl⟩ := e3
    obtain ⟨rfl, rfl, rfl⟩ := e4
    obtain ⟨rfl, rfl, rfl⟩ := e5
    subst e0 e1 e6 e7
    exact ⟨⟨a0, a1, s0, s1, s2, s3, p0, p1, p2, v0, v1, v2, u0, u1, u2, a6, a7⟩, hw, rfl⟩
set_option maxRecDepth 100000 in
theorem touch_open {fuel : Nat} {cs : List Value} {x : DataW H × List MemPlace} (h : DataW.trod enc Try.prog w base sp held fuel 34 cs = some x) : ∃ q : Tc, In64S q.a ∧ In64S q.b ∧ cs = [.int .i64 (q.a), .int .i64 (q.b), .int .i64 (q.way.x), .int .i64 (q.way.y), .int .i64 (q.way.z), .int .i64 (q.deep)] := by
  obtain ⟨y0, y1, y2, y3, n, rfl, hl, h0, h1, h2, h3⟩ := trod_struct4 Try.underlying34 h
  rw [cellsTouch] at hl
  match cs, hl with
  | [c0, c1, c2, c3, c4, c5], _ =>
    simp only [cellsInt, cellsVec] at h0 h1 h2 h3
    obtain ⟨a, e0, hw⟩ := int_open h0
    obtain ⟨b, e1, hw'⟩ := int_open h1
    obtain ⟨x, y, z, e2⟩ := vec_open h2
    obtain ⟨d, e3, _⟩ := int_open h3
    simp at e0 e1 e2 e3
    obtain ⟨rfl, rfl, rfl⟩ := e2
    subst e0 e1 e3
    exact ⟨⟨a, b, ⟨x, y, z⟩, d⟩, hw, hw', rfl⟩
set_option maxRecDepth 100000 in
/-- The bodies of a slice that came in. -/
theorem bodies_open {fuel : Nat} {a : Option Addr} {len cap : Nat} {x : DataW H × List MemPlace} (h : DataW.trod enc Try.prog w 0 (fun _ => true) true fuel 22 [.slice a len cap] = some x) : ∃ B, BodiesAt w a len B ∧ (∀ j, j < len → In64S (B j).id) ∧ (a = none → len = 0 ∧ cap = 0) := by
  rcases open_slice Try.underlying22 h with ⟨e, _⟩ | ⟨ad, len', cap', m, n, D, Pl, e, hb, hl, hm, hmm, _, hx⟩
  · simp at e
    obtain ⟨rfl, rfl, rfl⟩ := e
    exact ⟨fun _ => bd0, fun j hj => by omega, fun j hj => by omega, fun _ => ⟨rfl, rfl⟩⟩
  · simp at e
    obtain ⟨rfl, rfl, rfl⟩ := e
    simp only [if_true] at hmm
    subst hmm
    have key : ∀ j, ∃ z : Bd, j < len → In64S z.id ∧ ∃ b o, some ad = some ⟨b, o, none⟩ ∧ ∀ k, k < 17 → w.cell? ⟨b, o + j * 17 + k, none⟩ = some (bc z k) := by
      intro j
      by_cases hj : j < len
      · obtain ⟨cs, hc, ht⟩ := hx j (by omega)
        rw [cellsBody] at hc
        obtain ⟨q, hi, rfl⟩ := body_open ht
        obtain ⟨_, _, hcell⟩ := World.cells?_some hc
        refine ⟨q, fun _ => ⟨hi, ?_⟩⟩
        obtain ⟨b, o, spot⟩ := ad
        cases spot with
        | some s =>
          exfalso
          obtain ⟨cs0, hc0, ht0⟩ := hx 0 (by omega)
          rw [cellsBody] at hc0
          obtain ⟨q', _, rfl⟩ := body_open ht0
          obtain ⟨_, _, hcell0⟩ := World.cells?_some hc0
          have k := hcell0 0 (by omega)
          simp only [Addr.add, Nat.zero_mul, if_true, World.cell?, Option.isSome_some, bdL, List.getElem?_cons_zero] at k
          split at k <;> cases k
        | none =>
          refine ⟨b, o, rfl, fun k hk => ?_⟩
          have k0 := hcell k hk
          rw [add_plain, add_plain, bdL_at q k hk] at k0
          exact k0
      · exact ⟨bd0, fun h => absurd h hj⟩
    exact ⟨fun j => (key j).choose, fun j hj => ((key j).choose_spec hj).2, fun j hj => ((key j).choose_spec hj).1, fun e => by cases e⟩
set_option maxRecDepth 100000 in
/-- The touches of a slice that came in. -/
theorem touches_open {fuel : Nat} {a : Option Addr} {len cap : Nat} {x : DataW H × List MemPlace} (h : DataW.trod enc Try.prog w 0 (fun _ => true) true fuel 23 [.slice a len cap] = some x) : ∃ T, TouchesAt w a len T := by
  rcases open_slice Try.underlying23 h with ⟨e, _⟩ | ⟨ad, len', cap', m, n, D, Pl, e, hb, hl, hm, hmm, _, hx⟩
  · simp at e
    obtain ⟨rfl, rfl, rfl⟩ := e
    exact ⟨fun _ => ⟨0, 0, ⟨0, 0, 0⟩, 0⟩, fun j hj => by omega⟩
  · simp at e
    obtain ⟨rfl, rfl, rfl⟩ := e
    simp only [if_true] at hmm
    subst hmm
    have key : ∀ j, ∃ z : Tc, j < len → In64S z.a ∧ In64S z.b ∧ ∃ b o, some ad = some ⟨b, o, none⟩ ∧ w.cell? ⟨b, o + j * 6, none⟩ = some (.int .i64 (z.a)) ∧ w.cell? ⟨b, o + j * 6 + 1, none⟩ = some (.int .i64 (z.b)) ∧ w.cell? ⟨b, o + j * 6 + 2, none⟩ = some (.int .i64 (z.way.x)) ∧ w.cell? ⟨b, o + j * 6 + 3, none⟩ = some (.int .i64 (z.way.y)) ∧ w.cell? ⟨b, o + j * 6 + 4, none⟩ = some (.int .i64 (z.way.z)) ∧ w.cell? ⟨b, o + j * 6 + 5, none⟩ = some (.int .i64 (z.deep)) := by
      intro j
      by_cases hj : j < len
      · obtain ⟨cs, hc, ht⟩ := hx j (by omega)
        rw [cellsTouch] at hc
        obtain ⟨q, hi, hi', rfl⟩ := touch_open ht
        obtain ⟨_, _, hcell⟩ := World.cells?_some hc
        refine ⟨q, fun _ => ⟨hi, hi', ?_⟩⟩
        obtain ⟨b, o, spot⟩ := ad
        cases spot with
        | some s =>
          exfalso
          obtain ⟨cs0, hc0, ht0⟩ := hx 0 (by omega)
          rw [cellsTouch] at hc0
          obtain ⟨q', _, _, rfl⟩ := touch_open ht0
          obtain ⟨_, _, hcell0⟩ := World.cells?_some hc0
          have k := hcell0 0 (by omega)
          simp only [Addr.add, Nat.zero_mul, if_true, World.cell?, Option.isSome_some, List.getElem?_cons_zero] at k
          split at k <;> cases k
        | none =>
          refine ⟨b, o, rfl, ?_⟩
          have k0 := hcell 0 (by omega); have k1 := hcell 1 (by omega); have k2 := hcell 2 (by omega); have k3 := hcell 3 (by omega); have k4 := hcell 4 (by omega); have k5 := hcell 5 (by omega)
          rw [add_plain, add_plain] at k0 k1 k2 k3 k4 k5
          exact ⟨k0, k1, k2, k3, k4, k5⟩
      · exact ⟨⟨0, 0, ⟨0, 0, 0⟩, 0⟩, fun h => absurd h hj⟩
    exact ⟨fun j => (key j).choose, fun j hj => (key j).choose_spec hj⟩
end
end Go.Proofs.Ytpegjobehdihbaa.SvF
