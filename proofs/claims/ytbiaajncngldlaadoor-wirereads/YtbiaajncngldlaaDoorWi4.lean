/- gyrelaw.WireAsks: whichever command: true. -/
import Derived.Test.YtbiaajncngldlaaDoorWi3
import Derived.Test.YtbiaajncngldlaaDoorStr
namespace Go.Proofs.YtbiaajncngldlaaDoor
open Go.ChangeShapes Go.WideShapes Go.ChangeAt Go.RowKit
set_option linter.unusedVariables false
set_option linter.unusedSimpArgs false

set_option maxRecDepth 100000 in
set_option maxHeartbeats 2000000 in
theorem command_calls (c : Cm) (w : World) : Calls Tryd.prog 8 #[.agg #[.int .i64 (c.tk), .int .i64 (c.nm), .int .i64 (c.sn), .int .i64 (c.kd), .int .i64 (c.bd), .int .i64 (c.x), .int .i64 (c.y), .int .i64 (c.z)]] w fun e w' => e = .returned (.agg #[.int .i64 (c.tk), .int .i64 (c.nm), .int .i64 (c.sn), .int .i64 (c.kd), .int .i64 (c.bd), .int .i64 (c.x), .int .i64 (c.y), .int .i64 (c.z)]) ∧ Kept w w' := by
  go_enter Tryd.func8, Tryd.ntmps8
  go_wp2_with fail
  exact bodyPost_ret (v := .agg #[.int .i64 (c.tk), .int .i64 (c.nm), .int .i64 (c.sn), .int .i64 (c.kd), .int .i64 (c.bd), .int .i64 (c.x), .int .i64 (c.y), .int .i64 (c.z)]) (by simp [results, Tryd.results8, go_sem]) rfl ⟨rfl, ((Kept.refl _).alloc _ _).alloc _ _⟩
/-- Both answers, side by side. -/
theorem ask_both {c : Cm} {w w1 w2 w3 : World} {e1 e2 : Ending} (hr : RAskPost c w e1 w1) (o : Only [] w1 w2) (ha : AskPost c w2 e2 w3) :
    (∃ k, e1 = .returned (.tuple #[.slice none 0 0, .int .i64 k]) ∧ e2 = .returned (.tuple #[.slice none 0 0, errV k])) ∨ (∃ v1 v2, e1 = .returned (.tuple #[v1, .int .i64 0]) ∧ e2 = .returned (.tuple #[v2, .nilIface]) ∧ ReadsAs w3 v1 (bytesOf (askT c)) ∧ ReadsAs w3 v2 (bytesOf (askT c))) := by
  obtain ⟨_, hr⟩ := hr
  obtain ⟨o2, ha⟩ := ha
  rcases hr with ⟨n, e⟩ | ⟨y, n, e⟩ | ⟨y, k, v, e, hs⟩ <;> rcases ha with ⟨n', e'⟩ | ⟨y', n', e'⟩ | ⟨y', k', v', e', hs'⟩
  · exact Or.inl ⟨1, e, e'⟩
  · exact absurd y' n
  · exact absurd y' n
  · exact absurd y n'
  · exact Or.inl ⟨2, e, e'⟩
  · exact absurd k' n
  · exact absurd y n'
  · exact absurd k n'
  · exact Or.inr ⟨v, v', e, e', hs.reads.only (o.trans o2), hs'.reads⟩
set_option maxRecDepth 100000 in
set_option maxHeartbeats 2000000 in
theorem wireAsks_calls (c : Cm) (w : World) (hg : EtIs w) : Calls Tryd.prog 3 #[.agg #[.int .i64 (c.tk), .int .i64 (c.nm), .int .i64 (c.sn), .int .i64 (c.kd), .int .i64 (c.bd), .int .i64 (c.x), .int .i64 (c.y), .int .i64 (c.z)]] w fun e w' => e = .returned (.bool true) ∧ Only [] w w' := by
  have HG : Hid (EtIs w) := hg
  clear hg
  go_enter Tryd.func3, Tryd.ntmps3
  go_upto_region 1 with fail
  have H0 : Hid (CmAt 25 (w.alloc (.cells #[.int .i64 (c.tk), .int .i64 (c.nm), .int .i64 (c.sn), .int .i64 (c.kd), .int .i64 (c.bd), .int .i64 (c.x), .int .i64 (c.y), .int .i64 (c.z)] 25)) w.heap.size c ∧ Only [] w (w.alloc (.cells #[.int .i64 (c.tk), .int .i64 (c.nm), .int .i64 (c.sn), .int .i64 (c.kd), .int .i64 (c.bd), .int .i64 (c.x), .int .i64 (c.y), .int .i64 (c.z)] 25))) := ⟨(MapKept.heap_alloc w _).1, (Only.refl _ _).alloc _⟩
  revert H0
  generalize w.heap.size = k
  generalize World.alloc w _ = w1
  intro H0
  obtain ⟨c0, c1, c2, c3, c4, c5, c6, c7⟩ := H0.out.1.cells
  go_wp2_with fail
  refine (command_calls c w1).mono ?_
  rintro e w2 ⟨rfl, k2⟩
  have H1 : Hid (CmAt 25 w2 k c ∧ Only [] w w2) := ⟨H0.out.1.only (D := []) (Only.of_kept k2) (by simp), H0.out.2.trans (Only.of_kept k2)⟩
  clear k2 c0 c1 c2 c3 c4 c5 c6 c7 H0
  go_wp2_with fail
  refine (refAsk_calls c w2).mono ?_
  intro e1 w3 hr
  have H2 : Hid (CmAt 25 w3 k c ∧ Only [] w w3 ∧ RAskPost c w2 e1 w3) := ⟨H1.out.1.only (D := []) hr.1 (by simp), H1.out.2.trans hr.1, hr⟩
  clear H1
  have hsh : ∃ v n, e1 = .returned (.tuple #[v, .int .i64 n]) := by
    rcases hr.2 with ⟨_, e⟩ | ⟨_, _, e⟩ | ⟨_, _, v, e, _⟩
    · exact ⟨_, _, e⟩
    · exact ⟨_, _, e⟩
    · exact ⟨_, _, e⟩
  clear hr
  obtain ⟨v1, n1, rfl⟩ := hsh
  obtain ⟨c0, c1, c2, c3, c4, c5, c6, c7⟩ := H2.out.1.cells
  go_wp2_with fail
  refine (ask_calls c w3).mono ?_
  intro e2 w4 ha
  have HB := ask_both H2.out.2.2 (Only.refl _ _) ha
  have H3 : Hid (Only [] w w4) := H2.out.2.1.trans ha.1
  clear ha c0 c1 c2 c3 c4 c5 c6 c7 H2
  rcases HB with ⟨n, q1, rfl⟩ | ⟨u1, u2, q1, rfl, r1, r2⟩
  · injection q1 with q1
    injection q1 with q1
    injection q1 with q1
    injection q1 with q0 q1
    injection q1 with q1 _
    injection q1 with _ q1
    subst q0 q1
    go_wp2_with fail
    refine (bare_yes n1 w4 (HG.out.only H3.out)).mono ?_
    rintro e w5 ⟨rfl, o5⟩
    have H4 : Hid (Only [] w w5) := H3.out.trans o5
    have hcv := str_none w5
    clear o5
    go_wp2_with fail
    go_ret
    exact ⟨ret_bool (by simp), H4.out⟩
  · injection q1 with q1
    injection q1 with q1
    injection q1 with q1
    injection q1 with q0 q1
    injection q1 with q1 _
    injection q1 with _ q1
    subst q0 q1
    have HR : Hid (ReadsAs w4 v1 (bytesOf (askT c)) ∧ ReadsAs w4 u2 (bytesOf (askT c))) := ⟨r1, r2⟩
    clear r1 r2
    go_wp2_with fail
    refine (bare_none w4).mono ?_
    rintro e w5 ⟨rfl, o5⟩
    have H4 : Hid (Only [] w w5) := H3.out.trans o5
    have hc1 := HR.out.1 w5 o5
    have hc2 := HR.out.2 w5 o5
    clear o5
    go_wp2_with fail
    go_ret
    exact ⟨ret_bool (by simp), H4.out⟩
end Go.Proofs.YtbiaajncngldlaaDoor
