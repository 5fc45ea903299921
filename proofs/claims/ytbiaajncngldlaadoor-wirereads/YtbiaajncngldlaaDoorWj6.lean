/- gyrelaw.WireReads: whichever bytes: true. -/
import Derived.Test.YtbiaajncngldlaaDoorWj4
import Derived.Test.YtbiaajncngldlaaDoorWj5
import Derived.Test.YtbiaajncngldlaaDoorWi4
namespace Go.Proofs.YtbiaajncngldlaaDoor
open Go.ChangeShapes Go.WideShapes Go.ChangeAt Go.RowKit
set_option linter.unusedVariables false
set_option linter.unusedSimpArgs false

theorem bareN_calls (er : Nat) (w : World) (hg : EtIs w) : Calls Tryd.prog 10 #[eN er, .int .i64 ((er : Int))] w fun e w' => e = .returned (.bool true) ∧ Only [] w w' := by
  by_cases h : er = 0
  · subst h
    exact bare_none w
  · rw [eN_pos h]
    exact bare_yes (er : Int) w hg
theorem run_sameC {ρ : Operand → Value} {o : Oper} {x y : Operand} {c : Cm} {w : World} (ho : o.op = .binOp .eql 30 x y 30) (hx : ρ x = .agg #[.int .i64 (c.tk), .int .i64 (c.nm), .int .i64 (c.sn), .int .i64 (c.kd), .int .i64 (c.bd), .int .i64 (c.x), .int .i64 (c.y), .int .i64 (c.z)]) (hy : ρ y = .agg #[.int .i64 (c.tk), .int .i64 (c.nm), .int .i64 (c.sn), .int .i64 (c.kd), .int .i64 (c.bd), .int .i64 (c.x), .int .i64 (c.y), .int .i64 (c.z)]) :
    (execOp ρ o).run Tryd.prog w = .ok (.value (.bool true)) w := by
  unfold execOp
  rw [ho]
  simp only [hx, hy]
  go_simp
theorem run_loadC_wire {ρ : Operand → Value} {o : Oper} {x : Operand} {k : Nat} {c : Cm} {w : World} (ho : o.op = .load 25 x) (hx : ρ x = .pointer (some ⟨k, 0, none⟩)) (h : CmAt 25 w k c) :
    (execOp ρ o).run Tryd.prog w = .ok (.value (.agg #[.int .i64 (c.tk), .int .i64 (c.nm), .int .i64 (c.sn), .int .i64 (c.kd), .int .i64 (c.bd), .int .i64 (c.x), .int .i64 (c.y), .int .i64 (c.z)])) w := by
  obtain ⟨c0, c1, c2, c3, c4, c5, c6, c7⟩ := h.cells
  unfold execOp
  rw [ho]
  simp only [hx]
  go_simp
theorem run_loadC_ref {ρ : Operand → Value} {o : Oper} {x : Operand} {k : Nat} {c : Cm} {w : World} (ho : o.op = .load 30 x) (hx : ρ x = .pointer (some ⟨k, 0, none⟩)) (h : CmAt 30 w k c) :
    (execOp ρ o).run Tryd.prog w = .ok (.value (.agg #[.int .i64 (c.tk), .int .i64 (c.nm), .int .i64 (c.sn), .int .i64 (c.kd), .int .i64 (c.bd), .int .i64 (c.x), .int .i64 (c.y), .int .i64 (c.z)])) w := by
  obtain ⟨c0, c1, c2, c3, c4, c5, c6, c7⟩ := h.cells
  unfold execOp
  rw [ho]
  simp only [hx]
  go_simp
theorem run_loadP_wire {ρ : Operand → Value} {o : Oper} {x : Operand} {k : Nat} {P : Pc} {v : Value} {w : World} (ho : o.op = .load 39 x) (hx : ρ x = .pointer (some ⟨k, 0, none⟩)) (h : PcAt 39 w k P v) :
    (execOp ρ o).run Tryd.prog w = .ok (.value (.agg #[.int .i64 (P.st), .int .i64 (P.ba), .int .i64 (P.ix), .int .i64 (P.mn), v])) w := by
  obtain ⟨c0, c1, c2, c3, c4⟩ := h.cells
  unfold execOp
  rw [ho]
  simp only [hx]
  go_simp
theorem run_loadP_ref {ρ : Operand → Value} {o : Oper} {x : Operand} {k : Nat} {P : Pc} {v : Value} {w : World} (ho : o.op = .load 41 x) (hx : ρ x = .pointer (some ⟨k, 0, none⟩)) (h : PcAt 41 w k P v) :
    (execOp ρ o).run Tryd.prog w = .ok (.value (.agg #[.int .i64 (P.st), .int .i64 (P.ba), .int .i64 (P.ix), .int .i64 (P.mn), v])) w := by
  obtain ⟨c0, c1, c2, c3, c4⟩ := h.cells
  unfold execOp
  rw [ho]
  simp only [hx]
  go_simp
set_option maxRecDepth 100000 in
theorem samePiece_calls (P : Pc) (v1 v2 : Value) (B : List Nat) (w : World) (h1 : ReadsAs w v1 B) (h2 : ReadsAs w v2 B) : Calls Tryd.prog 17 #[.agg #[.int .i64 (P.st), .int .i64 (P.ba), .int .i64 (P.ix), .int .i64 (P.mn), v1], .agg #[.int .i64 (P.st), .int .i64 (P.ba), .int .i64 (P.ix), .int .i64 (P.mn), v2]] w fun e w' => e = .returned (.bool true) ∧ Only [] w w' := by
  have HR : Hid (ReadsAs w v1 B ∧ ReadsAs w v2 B) := ⟨h1, h2⟩
  clear h1 h2
  go_enter Tryd.func17, Tryd.ntmps17
  go_upto_region 1 with fail
  have H0 : Hid (PcAt 39 ((w.alloc (.cells #[.int .i64 (P.st), .int .i64 (P.ba), .int .i64 (P.ix), .int .i64 (P.mn), v1] 39)).alloc (.cells #[.int .i64 (P.st), .int .i64 (P.ba), .int .i64 (P.ix), .int .i64 (P.mn), v2] 41)) w.heap.size P v1 ∧ PcAt 41 ((w.alloc (.cells #[.int .i64 (P.st), .int .i64 (P.ba), .int .i64 (P.ix), .int .i64 (P.mn), v1] 39)).alloc (.cells #[.int .i64 (P.st), .int .i64 (P.ba), .int .i64 (P.ix), .int .i64 (P.mn), v2] 41)) (w.heap.size + 1) P v2 ∧ Only [] w ((w.alloc (.cells #[.int .i64 (P.st), .int .i64 (P.ba), .int .i64 (P.ix), .int .i64 (P.mn), v1] 39)).alloc (.cells #[.int .i64 (P.st), .int .i64 (P.ba), .int .i64 (P.ix), .int .i64 (P.mn), v2] 41))) := by
    refine ⟨?_, ?_, ((Only.refl _ _).alloc _).alloc _⟩
    · unfold PcAt; rw [Below.heap_alloc _ _ _ (by simp)]; exact (MapKept.heap_alloc w _).1
    · have := (MapKept.heap_alloc (w.alloc (.cells #[.int .i64 (P.st), .int .i64 (P.ba), .int .i64 (P.ix), .int .i64 (P.mn), v1] 39)) (.cells #[.int .i64 (P.st), .int .i64 (P.ba), .int .i64 (P.ix), .int .i64 (P.mn), v2] 41)).1
      unfold PcAt
      simpa using this
  revert H0
  generalize w.heap.size + 1 = k2
  generalize w.heap.size = k1
  generalize World.alloc (World.alloc w _) _ = w1
  intro H0
  obtain ⟨c0, c1, c2, c3, c4⟩ := H0.out.1.cells
  obtain ⟨d0, d1, d2, d3, d4⟩ := H0.out.2.1.cells
  have e1 := HR.out.1 w1 H0.out.2.2
  have e2 := HR.out.2 w1 H0.out.2.2
  go_wp2_with fail
  go_ret
  exact ⟨ret_bool (by simp), H0.out.2.2⟩
theorem asked_both {L : List Nat} {w w1 w2 w3 : World} {e1 e2 : Ending} (hr : RAskedPost L w e1 w1) (ha : AskedPost L w2 e2 w3) : ∃ (C : Cm) (er : Nat), e1 = .returned (.tuple #[cmV C, .int .i64 ((er : Int))]) ∧ e2 = .returned (.tuple #[cmV C, eN er]) := by
  rcases hr.2 with ⟨g, e⟩ | ⟨g, e⟩ <;> rcases ha.2 with ⟨g', e'⟩ | ⟨g', e'⟩
  · exact ⟨_, 0, e, e'⟩
  · exact absurd g g'
  · exact absurd g' g
  · exact ⟨_, 3, e, e'⟩
theorem told_both {L : List Nat} {w w1 w3 : World} {e1 e2 : Ending} (hr : RToldPost L w e1 w1) (ha : ToldPost L w1 e2 w3) : ∃ (P : Pc) (v1 v2 : Value) (B : List Nat) (er : Nat), e1 = .returned (.tuple #[pcV P v1, .int .i64 ((er : Int))]) ∧ e2 = .returned (.tuple #[pcV P v2, eN er]) ∧ ReadsAs w3 v1 B ∧ ReadsAs w3 v2 B := by
  have o := ha.1
  rcases hr.2 with ⟨g, u, e, hs⟩ | ⟨g, e⟩ <;> rcases ha.2 with ⟨g', gb, e', _, hb⟩ | ⟨g', e'⟩
  · exact ⟨_, _, _, toldY L, 0, e, e', hs.reads.only o, arg_reads hb (by simp)⟩
  · exact absurd g g'
  · exact absurd g' g
  · exact ⟨_, _, _, [], 3, e, e', ReadsAs.nil _, ReadsAs.nil _⟩
theorem wireReads_long (a : Option Addr) (n c : Nat) (w : World) (h : 300 < n) : Calls Tryd.prog 5 #[.slice a n c] w fun e w' => e = .returned (.bool true) ∧ Only [] w w' := by
  have hl : (n : Int) > 300 := by omega
  go_enter Tryd.func5, Tryd.ntmps5
  go_wp2_with fail
  go_ret
  exact ⟨rfl, Only.refl _ _⟩
set_option maxRecDepth 100000 in
set_option maxHeartbeats 8000000 in
theorem wireReads_calls (a : Option Addr) (c : Nat) (L : List Nat) (w : World) (hg : EtIs w) (hl : L.length ≤ 300) (hs : ∀ x ∈ L, x < 256) (hb : ByAt w a L) (hn : a = none → L = [] ∧ c = 0) :
    Calls Tryd.prog 5 #[.slice a L.length c] w fun e w' => e = .returned (.bool true) ∧ Only [] w w' := by
  have HB : Hid (EtIs w ∧ ByAt w a L ∧ (∀ x ∈ L, x < 256) ∧ (a = none → L = [] ∧ c = 0)) := ⟨hg, hb, hs, hn⟩
  have hlg : ¬ (L.length : Int) > 300 := by omega
  clear hg hb hs hn
  go_enter Tryd.func5, Tryd.ntmps5
  go_wp2_with fail
  refine (refAsked_calls a c L w (by omega) HB.out.2.2.1 HB.out.2.1 HB.out.2.2.2).mono ?_
  intro e1 w1 hr
  have hsh : ∃ (C : Cm) (er : Nat), e1 = .returned (.tuple #[cmV C, .int .i64 ((er : Int))]) ∧ ∀ (w2 w3 : World) (e2 : Ending), AskedPost L w2 e2 w3 → e2 = .returned (.tuple #[cmV C, eN er]) := by
    rcases hr.2 with ⟨g, e⟩ | ⟨g, e⟩
    · refine ⟨_, 0, e, fun w2 w3 e2 ha => ?_⟩
      rcases ha.2 with ⟨g', e'⟩ | ⟨g', e'⟩
      · exact e'
      · exact absurd g g'
    · refine ⟨_, 3, e, fun w2 w3 e2 ha => ?_⟩
      rcases ha.2 with ⟨g', e'⟩ | ⟨g', e'⟩
      · exact absurd g' g
      · exact e'
  have H1 : Hid (Only [] w w1) := hr.1
  clear hr
  obtain ⟨C, er, rfl, hA⟩ := hsh
  have HA : Hid (∀ (w2 w3 : World) (e2 : Ending), AskedPost L w2 e2 w3 → e2 = .returned (.tuple #[cmV C, eN er])) := hA
  clear hA
  rw [show cmV C = .agg #[.int .i64 (C.tk), .int .i64 (C.nm), .int .i64 (C.sn), .int .i64 (C.kd), .int .i64 (C.bd), .int .i64 (C.x), .int .i64 (C.y), .int .i64 (C.z)] from rfl]
  go_upto_region 4 with fail
  have H2 : Hid (CmAt 30 (w1.alloc (.cells #[.int .i64 (C.tk), .int .i64 (C.nm), .int .i64 (C.sn), .int .i64 (C.kd), .int .i64 (C.bd), .int .i64 (C.x), .int .i64 (C.y), .int .i64 (C.z)] 30)) w1.heap.size C ∧ Only [] w (w1.alloc (.cells #[.int .i64 (C.tk), .int .i64 (C.nm), .int .i64 (C.sn), .int .i64 (C.kd), .int .i64 (C.bd), .int .i64 (C.x), .int .i64 (C.y), .int .i64 (C.z)] 30))) := ⟨(MapKept.heap_alloc w1 _).1, H1.out.alloc _⟩
  clear H1
  revert H2
  generalize w1.heap.size = k1
  generalize World.alloc w1 _ = w2
  intro H2
  go_wp2_with fail
  refine (asked_calls a c L w2 (by omega) HB.out.2.2.1 (HB.out.2.1.only H2.out.2 (by simp)) HB.out.2.2.2).mono ?_
  intro e2 w3 ha
  have H3 : Hid (CmAt 30 w3 k1 C ∧ Only [] w w3) := ⟨H2.out.1.only ha.1 (by simp), H2.out.2.trans ha.1⟩
  have he2 := HA.out _ _ _ ha
  clear ha H2 HA
  subst he2
  rw [show cmV C = .agg #[.int .i64 (C.tk), .int .i64 (C.nm), .int .i64 (C.sn), .int .i64 (C.kd), .int .i64 (C.bd), .int .i64 (C.x), .int .i64 (C.y), .int .i64 (C.z)] from rfl]
  go_upto_region 5 with fail
  have H4 : Hid (CmAt 25 (w3.alloc (.cells #[.int .i64 (C.tk), .int .i64 (C.nm), .int .i64 (C.sn), .int .i64 (C.kd), .int .i64 (C.bd), .int .i64 (C.x), .int .i64 (C.y), .int .i64 (C.z)] 25)) w3.heap.size C ∧ CmAt 30 (w3.alloc (.cells #[.int .i64 (C.tk), .int .i64 (C.nm), .int .i64 (C.sn), .int .i64 (C.kd), .int .i64 (C.bd), .int .i64 (C.x), .int .i64 (C.y), .int .i64 (C.z)] 25)) k1 C ∧ Only [] w (w3.alloc (.cells #[.int .i64 (C.tk), .int .i64 (C.nm), .int .i64 (C.sn), .int .i64 (C.kd), .int .i64 (C.bd), .int .i64 (C.x), .int .i64 (C.y), .int .i64 (C.z)] 25))) := ⟨(MapKept.heap_alloc w3 _).1, H3.out.1.only (D := []) ((Only.refl _ _).alloc _) (by simp), H3.out.2.alloc _⟩
  clear H3
  revert H4
  generalize w3.heap.size = k2
  generalize World.alloc w3 _ = w4
  intro H4
  go_wp2_with fail
  refine (refTold_calls a c L w4 (by omega) HB.out.2.2.1 (HB.out.2.1.only H4.out.2.2 (by simp)) HB.out.2.2.2).mono ?_
  intro e3 w5 hr
  have hsh : ∃ (P : Pc) (v1 : Value) (B : List Nat) (es : Nat), e3 = .returned (.tuple #[pcV P v1, .int .i64 ((es : Int))]) ∧ (∃ a1 n1 c1, v1 = Value.slice a1 n1 c1) ∧ ReadsAs w5 v1 B ∧ ∀ (w2 w3 : World) (e2 : Ending), ToldPost L w2 e2 w3 → ∃ v2, e2 = .returned (.tuple #[pcV P v2, eN es]) ∧ ReadsAs w3 v2 B := by
    rcases hr.2 with ⟨g, u, e, hs⟩ | ⟨g, e⟩
    · refine ⟨_, u, toldY L, 0, e, (by obtain ⟨q1, q2, q3, _⟩ := hs.shape; exact ⟨_, _, _, q3⟩), hs.reads, fun w2 w3 e2 ha => ?_⟩
      rcases ha.2 with ⟨g', gb, e', _, hb⟩ | ⟨g', e'⟩
      · exact ⟨_, e', arg_reads hb (by simp)⟩
      · exact absurd g g'
    · refine ⟨_, _, [], 3, e, ⟨_, _, _, rfl⟩, ReadsAs.nil _, fun w2 w3 e2 ha => ?_⟩
      rcases ha.2 with ⟨g', gb, e', _, hb⟩ | ⟨g', e'⟩
      · exact absurd g' g
      · exact ⟨_, e', ReadsAs.nil _⟩
  have H5 : Hid (CmAt 25 w5 k2 C ∧ CmAt 30 w5 k1 C ∧ Only [] w w5) := ⟨H4.out.1.only hr.1 (by simp), H4.out.2.1.only hr.1 (by simp), H4.out.2.2.trans hr.1⟩
  clear hr H4
  obtain ⟨P, v1, B, es, rfl, hsl0, hv1, hT⟩ := hsh
  have HSL1 : Hid (∃ a1 n1 c1, v1 = Value.slice a1 n1 c1) := hsl0
  clear hsl0
  have HT : Hid (ReadsAs w5 v1 B ∧ ∀ (w2 w3 : World) (e2 : Ending), ToldPost L w2 e2 w3 → ∃ v2, e2 = .returned (.tuple #[pcV P v2, eN es]) ∧ ReadsAs w3 v2 B) := ⟨hv1, hT⟩
  clear hv1 hT
  obtain ⟨a1, n1, c1, hsl1⟩ : ∃ a1 n1 c1, v1 = Value.slice a1 n1 c1 := HSL1.out
  subst hsl1
  rw [show pcV P (.slice a1 n1 c1) = .agg #[.int .i64 (P.st), .int .i64 (P.ba), .int .i64 (P.ix), .int .i64 (P.mn), .slice a1 n1 c1] from rfl]
  go_upto_region 6 with fail
  have H6 : Hid (PcAt 41 (w5.alloc (.cells #[.int .i64 (P.st), .int .i64 (P.ba), .int .i64 (P.ix), .int .i64 (P.mn), .slice a1 n1 c1] 41)) w5.heap.size P (.slice a1 n1 c1) ∧ CmAt 25 (w5.alloc (.cells #[.int .i64 (P.st), .int .i64 (P.ba), .int .i64 (P.ix), .int .i64 (P.mn), .slice a1 n1 c1] 41)) k2 C ∧ CmAt 30 (w5.alloc (.cells #[.int .i64 (P.st), .int .i64 (P.ba), .int .i64 (P.ix), .int .i64 (P.mn), .slice a1 n1 c1] 41)) k1 C ∧ Only [] w (w5.alloc (.cells #[.int .i64 (P.st), .int .i64 (P.ba), .int .i64 (P.ix), .int .i64 (P.mn), .slice a1 n1 c1] 41)) ∧ ReadsAs (w5.alloc (.cells #[.int .i64 (P.st), .int .i64 (P.ba), .int .i64 (P.ix), .int .i64 (P.mn), .slice a1 n1 c1] 41)) (.slice a1 n1 c1) B) :=
    ⟨(MapKept.heap_alloc w5 _).1, H5.out.1.only (D := []) ((Only.refl _ _).alloc _) (by simp), H5.out.2.1.only (D := []) ((Only.refl _ _).alloc _) (by simp), H5.out.2.2.alloc _, HT.out.1.only ((Only.refl _ _).alloc _)⟩
  clear H5
  revert H6
  generalize w5.heap.size = k3
  generalize World.alloc w5 _ = w6
  intro H6
  go_wp2_with fail
  refine (told_calls a c L w6 (by omega) HB.out.2.2.1 (HB.out.2.1.only H6.out.2.2.2.1 (by simp)) HB.out.2.2.2).mono ?_
  intro e4 w7 ha
  have H7 : Hid (PcAt 41 w7 k3 P (.slice a1 n1 c1) ∧ CmAt 25 w7 k2 C ∧ CmAt 30 w7 k1 C ∧ Only [] w w7 ∧ ReadsAs w7 (.slice a1 n1 c1) B) := ⟨H6.out.1.only ha.1 (by simp), H6.out.2.1.only ha.1 (by simp), H6.out.2.2.1.only ha.1 (by simp), H6.out.2.2.2.1.trans ha.1, H6.out.2.2.2.2.only ha.1⟩
  obtain ⟨v2, rfl, hv2⟩ := HT.out.2 _ _ _ ha
  have hsl2 : ∃ a2 n2 c2, v2 = Value.slice a2 n2 c2 := by
    rcases ha.2 with ⟨_, gb, e', _, _⟩ | ⟨_, e'⟩
    · injection e' with e'; injection e' with e'; injection e' with e'; injection e' with e' _; injection e' with e'; injection e' with e'; injection e' with _ e'; injection e' with _ e'; injection e' with _ e'; injection e' with _ e'; injection e' with e' _
      exact ⟨_, _, _, e'⟩
    · injection e' with e'; injection e' with e'; injection e' with e'; injection e' with e' _; injection e' with e'; injection e' with e'; injection e' with _ e'; injection e' with _ e'; injection e' with _ e'; injection e' with _ e'; injection e' with e' _
      exact ⟨_, _, _, e'⟩
  obtain ⟨a2, n2, c2, rfl⟩ := hsl2
  have HV2 : Hid (ReadsAs w7 (.slice a2 n2 c2) B) := hv2
  clear ha hv2 H6 HT
  rw [show pcV P (.slice a2 n2 c2) = .agg #[.int .i64 (P.st), .int .i64 (P.ba), .int .i64 (P.ix), .int .i64 (P.mn), .slice a2 n2 c2] from rfl]
  go_upto_region 7 with fail
  have H8 : Hid (PcAt 39 (w7.alloc (.cells #[.int .i64 (P.st), .int .i64 (P.ba), .int .i64 (P.ix), .int .i64 (P.mn), .slice a2 n2 c2] 39)) w7.heap.size P (.slice a2 n2 c2) ∧ PcAt 41 (w7.alloc (.cells #[.int .i64 (P.st), .int .i64 (P.ba), .int .i64 (P.ix), .int .i64 (P.mn), .slice a2 n2 c2] 39)) k3 P (.slice a1 n1 c1) ∧ CmAt 25 (w7.alloc (.cells #[.int .i64 (P.st), .int .i64 (P.ba), .int .i64 (P.ix), .int .i64 (P.mn), .slice a2 n2 c2] 39)) k2 C ∧ CmAt 30 (w7.alloc (.cells #[.int .i64 (P.st), .int .i64 (P.ba), .int .i64 (P.ix), .int .i64 (P.mn), .slice a2 n2 c2] 39)) k1 C ∧ Only [] w (w7.alloc (.cells #[.int .i64 (P.st), .int .i64 (P.ba), .int .i64 (P.ix), .int .i64 (P.mn), .slice a2 n2 c2] 39)) ∧ ReadsAs (w7.alloc (.cells #[.int .i64 (P.st), .int .i64 (P.ba), .int .i64 (P.ix), .int .i64 (P.mn), .slice a2 n2 c2] 39)) (.slice a1 n1 c1) B ∧ ReadsAs (w7.alloc (.cells #[.int .i64 (P.st), .int .i64 (P.ba), .int .i64 (P.ix), .int .i64 (P.mn), .slice a2 n2 c2] 39)) (.slice a2 n2 c2) B) :=
    ⟨(MapKept.heap_alloc w7 _).1, H7.out.1.only (D := []) ((Only.refl _ _).alloc _) (by simp), H7.out.2.1.only (D := []) ((Only.refl _ _).alloc _) (by simp), H7.out.2.2.1.only (D := []) ((Only.refl _ _).alloc _) (by simp), H7.out.2.2.2.1.alloc _, H7.out.2.2.2.2.only ((Only.refl _ _).alloc _), HV2.out.only ((Only.refl _ _).alloc _)⟩
  clear H7 HV2
  revert H8
  generalize w7.heap.size = k4
  generalize World.alloc w7 _ = w8
  intro H8
  refine wp_region_held_drew (S := (fun w' => Only [] w8 w')) (by kernel_rfl) ?_ (fun hHeld1 => ?_)
  · (try dsimp only); exact (Only.refl [] w8).drew
  refine tkW 0 rfl ?_; refine tkW 1 rfl ?_
  try simp only [Act.put, List.setIfInBounds_toArray, List.set_cons_zero, List.set_cons_succ, List.getElem_toArray, List.getElem_cons_succ, List.getElem_cons_zero]
  refine wpAnyH_ready (rs := [2]) (by kernel_rfl) (by simp) ?_
  refine AllReadyH.cons rfl (fun K hK => ?_) AllReadyH.nil
  first | (with_reducible refine iteYes ?hcx ?htx; case hcx => kernel_rfl) | rw [if_pos (by rfl)]
  simp only [List.getElem_toArray, List.getElem_cons_succ, List.getElem_cons_zero]
  go_simp
  (go_at_call 10; refine (bareN_calls er _ (HB.out.1.only (H8.out.2.2.2.2.1.trans (Only.refl [] w8).drew))).mono ?_; rintro e w9 ⟨rfl, o9⟩)
  try go_wp2_with fail
  refine hK.out _ _ ?_ (fun hHeld2 => ?_)
  · (try dsimp only); exact hHeld1.trans o9
  clear hK K hHeld1
  try simp only [Act.put, List.setIfInBounds_toArray, List.set_cons_zero, List.set_cons_succ, List.getElem_toArray, List.getElem_cons_succ, List.getElem_cons_zero]
  refine tkW 3 rfl ?_
  try simp only [Act.put, List.setIfInBounds_toArray, List.set_cons_zero, List.set_cons_succ, List.getElem_toArray, List.getElem_cons_succ, List.getElem_cons_zero]
  refine tkW (v := (.agg #[.int .i64 (C.tk), .int .i64 (C.nm), .int .i64 (C.sn), .int .i64 (C.kd), .int .i64 (C.bd), .int .i64 (C.x), .int .i64 (C.y), .int .i64 (C.z)])) 4 rfl ?_ (by intro w'' hSw; (try dsimp only at hSw); simp only [List.getElem_toArray, List.getElem_cons_succ, List.getElem_cons_zero]; exact run_loadC_wire rfl (by kernel_rfl) (H8.out.2.2.1.only hSw (by simp)))
  try simp only [Act.put, List.setIfInBounds_toArray, List.set_cons_zero, List.set_cons_succ, List.getElem_toArray, List.getElem_cons_succ, List.getElem_cons_zero]
  refine tkW (v := (.agg #[.int .i64 (C.tk), .int .i64 (C.nm), .int .i64 (C.sn), .int .i64 (C.kd), .int .i64 (C.bd), .int .i64 (C.x), .int .i64 (C.y), .int .i64 (C.z)])) 6 rfl ?_ (by intro w'' hSw; (try dsimp only at hSw); simp only [List.getElem_toArray, List.getElem_cons_succ, List.getElem_cons_zero]; exact run_loadC_ref rfl (by kernel_rfl) (H8.out.2.2.2.1.only hSw (by simp)))
  try simp only [Act.put, List.setIfInBounds_toArray, List.set_cons_zero, List.set_cons_succ, List.getElem_toArray, List.getElem_cons_succ, List.getElem_cons_zero]
  refine wpAnyH_ready (rs := [5]) (by kernel_rfl) (by simp) ?_
  refine AllReadyH.cons rfl (fun K hK => ?_) AllReadyH.nil
  first | (with_reducible refine iteYes ?hcx ?htx; case hcx => kernel_rfl) | rw [if_pos (by rfl)]
  simp only [List.getElem_toArray, List.getElem_cons_succ, List.getElem_cons_zero]
  go_simp
  (go_at_call 8; refine (command_calls C _).mono ?_; rintro e w10 ⟨rfl, k10⟩)
  try go_wp2_with fail
  refine hK.out _ _ ?_ (fun hHeld3 => ?_)
  · (try dsimp only); exact hHeld2.trans (Only.of_kept k10)
  clear hK K hHeld2
  try simp only [Act.put, List.setIfInBounds_toArray, List.set_cons_zero, List.set_cons_succ, List.getElem_toArray, List.getElem_cons_succ, List.getElem_cons_zero]
  refine tkW (v := (.bool true)) 7 rfl ?_ (by intro w'' hSw; (try dsimp only at hSw); simp only [List.getElem_toArray, List.getElem_cons_succ, List.getElem_cons_zero]; exact run_sameC (c := C) rfl (by kernel_rfl) (by kernel_rfl))
  try simp only [Act.put, List.setIfInBounds_toArray, List.set_cons_zero, List.set_cons_succ, List.getElem_toArray, List.getElem_cons_succ, List.getElem_cons_zero]
  refine tkW 8 rfl ?_; refine tkW 9 rfl ?_; refine tkW 10 rfl ?_; refine tkW 11 rfl ?_
  try simp only [Act.put, List.setIfInBounds_toArray, List.set_cons_zero, List.set_cons_succ, List.getElem_toArray, List.getElem_cons_succ, List.getElem_cons_zero]
  refine wpAnyH_ready (rs := [12]) (by kernel_rfl) (by simp) ?_
  refine AllReadyH.cons rfl (fun K hK => ?_) AllReadyH.nil
  first | (with_reducible refine iteYes ?hcx ?htx; case hcx => kernel_rfl) | rw [if_pos (by rfl)]
  simp only [List.getElem_toArray, List.getElem_cons_succ, List.getElem_cons_zero]
  go_simp
  (go_at_call 10; refine (bareN_calls es _ (HB.out.1.only (H8.out.2.2.2.2.1.trans hHeld3))).mono ?_; rintro e w11 ⟨rfl, o11⟩)
  try go_wp2_with fail
  refine hK.out _ _ ?_ (fun hHeld4 => ?_)
  · (try dsimp only); exact hHeld3.trans o11
  clear hK K hHeld3
  try simp only [Act.put, List.setIfInBounds_toArray, List.set_cons_zero, List.set_cons_succ, List.getElem_toArray, List.getElem_cons_succ, List.getElem_cons_zero]
  refine tkW 13 rfl ?_; refine tkW 14 rfl ?_
  try simp only [Act.put, List.setIfInBounds_toArray, List.set_cons_zero, List.set_cons_succ, List.getElem_toArray, List.getElem_cons_succ, List.getElem_cons_zero]
  refine tkW (v := (.agg #[.int .i64 (P.st), .int .i64 (P.ba), .int .i64 (P.ix), .int .i64 (P.mn), .slice a2 n2 c2])) 15 rfl ?_ (by intro w'' hSw; (try dsimp only at hSw); simp only [List.getElem_toArray, List.getElem_cons_succ, List.getElem_cons_zero]; exact run_loadP_wire rfl (by kernel_rfl) (H8.out.1.only hSw (by simp)))
  try simp only [Act.put, List.setIfInBounds_toArray, List.set_cons_zero, List.set_cons_succ, List.getElem_toArray, List.getElem_cons_succ, List.getElem_cons_zero]
  refine tkW (v := (.agg #[.int .i64 (P.st), .int .i64 (P.ba), .int .i64 (P.ix), .int .i64 (P.mn), .slice a1 n1 c1])) 16 rfl ?_ (by intro w'' hSw; (try dsimp only at hSw); simp only [List.getElem_toArray, List.getElem_cons_succ, List.getElem_cons_zero]; exact run_loadP_ref rfl (by kernel_rfl) (H8.out.2.1.only hSw (by simp)))
  try simp only [Act.put, List.setIfInBounds_toArray, List.set_cons_zero, List.set_cons_succ, List.getElem_toArray, List.getElem_cons_succ, List.getElem_cons_zero]
  refine wpAnyH_ready (rs := [17]) (by kernel_rfl) (by simp) ?_
  refine AllReadyH.cons rfl (fun K hK => ?_) AllReadyH.nil
  first | (with_reducible refine iteYes ?hcx ?htx; case hcx => kernel_rfl) | rw [if_pos (by rfl)]
  simp only [List.getElem_toArray, List.getElem_cons_succ, List.getElem_cons_zero]
  go_simp
  (go_at_call 17; refine (samePiece_calls P _ _ B _ (H8.out.2.2.2.2.2.2.only hHeld4) (H8.out.2.2.2.2.2.1.only hHeld4)).mono ?_; rintro e w12 ⟨rfl, o12⟩)
  try go_wp2_with fail
  refine hK.out _ _ ?_ (fun hHeld5 => ?_)
  · (try dsimp only); exact hHeld4.trans o12
  clear hK K hHeld4
  try simp only [Act.put, List.setIfInBounds_toArray, List.set_cons_zero, List.set_cons_succ, List.getElem_toArray, List.getElem_cons_succ, List.getElem_cons_zero]
  refine tkW 18 rfl ?_; refine tkW 19 rfl ?_
  try simp only [Act.put, List.setIfInBounds_toArray, List.set_cons_zero, List.set_cons_succ, List.getElem_toArray, List.getElem_cons_succ, List.getElem_cons_zero]
  refine wpAnyH_done (by kernel_rfl) ?_ _
  go_wp2_with fail
  go_ret
  exact ⟨rfl, H8.out.2.2.2.2.1.trans hHeld5⟩
end Go.Proofs.YtbiaajncngldlaaDoor
