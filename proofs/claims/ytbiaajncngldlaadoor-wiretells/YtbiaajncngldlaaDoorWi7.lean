/- gyrelaw.WireTells: whichever piece: true. -/
import Derived.Test.YtbiaajncngldlaaDoorWi6
import Derived.Test.YtbiaajncngldlaaDoorStr
namespace Go.Proofs.YtbiaajncngldlaaDoor
open Go.ChangeShapes Go.WideShapes Go.ChangeAt Go.RowKit
set_option linter.unusedVariables false
set_option linter.unusedSimpArgs false

theorem tell_both {p : Pc} {L : List Nat} {w w1 w3 : World} {e1 e2 : Ending} (hr : RTellPost p L w e1 w1) (ha : TellPost p L w1 e2 w3) :
    (∃ k, e1 = .returned (.tuple #[.slice none 0 0, .int .i64 k]) ∧ e2 = .returned (.tuple #[.slice none 0 0, errV k])) ∨ (∃ v1 v2, e1 = .returned (.tuple #[v1, .int .i64 0]) ∧ e2 = .returned (.tuple #[v2, .nilIface]) ∧ ReadsAs w3 v1 (bytesOf (tellT p L)) ∧ ReadsAs w3 v2 (bytesOf (tellT p L))) := by
  obtain ⟨_, hr⟩ := hr
  obtain ⟨o2, ha⟩ := ha
  rcases hr with ⟨n, e⟩ | ⟨k, v, e, hs⟩ <;> rcases ha with ⟨n', e'⟩ | ⟨k', v', e', hs'⟩
  · exact Or.inl ⟨1, e, e'⟩
  · exact absurd k' n
  · exact absurd k n'
  · exact Or.inr ⟨v, v', e, e', hs.reads.only o2, hs'.reads⟩
theorem wireTells_long (p : Pc) (a : Option Addr) (n c : Nat) (w : World) (h : 300 < n) : Calls Tryd.prog 4 #[.agg #[.int .i64 (p.st), .int .i64 (p.ba), .int .i64 (p.ix), .int .i64 (p.mn), .slice a n c]] w fun e w' => e = .returned (.bool true) ∧ Only [] w w' := by
  have hl : (n : Int) > 300 := by omega
  go_enter Tryd.func4, Tryd.ntmps4
  go_wp2_with fail
  go_ret
  exact ⟨rfl, (Only.refl _ _).alloc _⟩
set_option maxRecDepth 100000 in
set_option maxHeartbeats 2000000 in
theorem wireTells_calls (p : Pc) (a : Option Addr) (c : Nat) (L : List Nat) (w : World) (hg : EtIs w) (hs : ∀ x ∈ L, x < 256) (hb : ByAt w a L) (hL : L.length ≤ 300) : Calls Tryd.prog 4 #[.agg #[.int .i64 (p.st), .int .i64 (p.ba), .int .i64 (p.ix), .int .i64 (p.mn), .slice a L.length c]] w fun e w' => e = .returned (.bool true) ∧ Only [] w w' := by
  have HG : Hid (EtIs w ∧ ByAt w a L ∧ ∀ x ∈ L, x < 256) := ⟨hg, hb, hs⟩
  have hl : ¬ (L.length : Int) > 300 := by omega
  clear hg hb hs
  go_enter Tryd.func4, Tryd.ntmps4
  go_upto_region 1 with fail
  have H0 : Hid (PcAt 39 (w.alloc (.cells #[.int .i64 (p.st), .int .i64 (p.ba), .int .i64 (p.ix), .int .i64 (p.mn), .slice a L.length c] 39)) w.heap.size p (.slice a L.length c) ∧ Only [] w (w.alloc (.cells #[.int .i64 (p.st), .int .i64 (p.ba), .int .i64 (p.ix), .int .i64 (p.mn), .slice a L.length c] 39))) := ⟨(MapKept.heap_alloc w _).1, (Only.refl _ _).alloc _⟩
  revert H0
  generalize w.heap.size = k
  generalize World.alloc w _ = w1
  intro H0
  obtain ⟨c0, c1, c2, c3, c4⟩ := H0.out.1.cells
  go_wp2_with fail
  refine (refTell_calls p a c L w1 HG.out.2.2 (by omega) (HG.out.2.1.only H0.out.2 (by simp))).mono ?_
  intro e1 w3 hr
  have H2 : Hid (PcAt 39 w3 k p (.slice a L.length c) ∧ Only [] w w3 ∧ RTellPost p L w1 e1 w3) := ⟨H0.out.1.only (D := []) hr.1 (by simp), H0.out.2.trans hr.1, hr⟩
  have hsh : ∃ v n, e1 = .returned (.tuple #[v, .int .i64 n]) := by
    rcases hr.2 with ⟨_, e⟩ | ⟨_, v, e, _⟩
    · exact ⟨_, _, e⟩
    · exact ⟨_, _, e⟩
  clear hr c0 c1 c2 c3 c4 H0
  obtain ⟨v1, n1, rfl⟩ := hsh
  obtain ⟨c0, c1, c2, c3, c4⟩ := H2.out.1.cells
  go_wp2_with fail
  refine (tell_calls p a c L w3 HG.out.2.2 (by omega) (HG.out.2.1.only H2.out.2.1 (by simp))).mono ?_
  intro e2 w4 ha
  have HB := tell_both H2.out.2.2 ha
  have H3 : Hid (Only [] w w4) := H2.out.2.1.trans ha.1
  clear ha c0 c1 c2 c3 c4 H2
  rcases HB with ⟨n, q1, rfl⟩ | ⟨u1, u2, q1, rfl, r1, r2⟩
  · injection q1 with q1
    injection q1 with q1
    injection q1 with q1
    injection q1 with q0 q1
    injection q1 with q1 _
    injection q1 with _ q1
    subst q0 q1
    go_wp2_with fail
    refine (bare_yes n1 w4 (HG.out.1.only H3.out)).mono ?_
    rintro e w5 ⟨rfl, o5⟩
    have H4 : Hid (Only [] w w5) := H3.out.trans o5
    have hcv := str_none w5
    clear o5
    go_wp2_with fail
    go_ret
    exact ⟨ret_bool (by simp), H4.out⟩
  · injection q1 with q1
    injection q1 with q1
    injection q1 with q1
    injection q1 with q0 q1
    injection q1 with q1 _
    injection q1 with _ q1
    subst q0 q1
    have HR : Hid (ReadsAs w4 v1 (bytesOf (tellT p L)) ∧ ReadsAs w4 u2 (bytesOf (tellT p L))) := ⟨r1, r2⟩
    clear r1 r2
    go_wp2_with fail
    refine (bare_none w4).mono ?_
    rintro e w5 ⟨rfl, o5⟩
    have H4 : Hid (Only [] w w5) := H3.out.trans o5
    have hc1 := HR.out.1 w5 o5
    have hc2 := HR.out.2 w5 o5
    clear o5
    go_wp2_with fail
    go_ret
    exact ⟨ret_bool (by simp), H4.out⟩
end Go.Proofs.YtbiaajncngldlaaDoor
