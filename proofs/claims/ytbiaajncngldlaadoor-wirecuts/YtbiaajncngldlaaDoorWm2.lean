/- gyrelaw.WireCuts: what it leans on: pieces side by side; bytes laid behind bytes. -/
import Derived.Test.YtbiaajncngldlaaDoorWm1
import Derived.Test.YtbiaajncngldlaaDoorStr
import Derived.Test.YtbiaajncngldlaaDoorStr2
namespace Go.Proofs.YtbiaajncngldlaaDoor
open Go.ChangeShapes Go.WideShapes Go.ChangeAt Go.RowKit
set_option linter.unusedVariables false
set_option linter.unusedSimpArgs false

theorem run_append_nil {P : Program} (w : World) (t ty e : TypeId) (i : TypeInfo) (ht : P.underlying t = some (.slice e)) (hi : P.info? e = some i) (a : Option Addr) (n c : Nat) (h : n ≤ c) :
    (Builtin.append_ #[t, t] ty #[.slice a n c, .slice none 0 0]).run P w = .ok (.slice a n c) w := by
  cases a <;> simp [Builtin.append_, run_underlying ht, sizeOf, typeInfo, hi, Builtin.lenOf, h, run_firstCells_none, storeCells]
theorem own_le {w : World} {b s : Nat} {T : TypeId} {a : Option Addr} {n c : Nat} {xs : List Value} (h : w.ownsRow b T s (.slice a n c) n xs) : n ≤ c := by
  obtain ⟨_, ⟨e, rfl⟩ | ⟨g, cap, cur, e, _, _, hn, _⟩⟩ := h
  · omega
  · injection e with _ _ e; omega
set_option maxRecDepth 100000 in
/-- Bytes behind bytes, whichever they are. -/
theorem run_appendB (w : World) (base : Nat) (ty : TypeId) (v : Value) (n : Nat) (xs : List Value) (hown : w.ownsRow base 5 1 v n xs) (a : Option Addr) (m c : Nat) (L : List Nat) (hm : m = L.length) (hb : ByAt w a L) (hn : a = none → L = [] ∧ c = 0) (hl : n + m ≤ 1000000) (hbase : base ≤ w.heap.size) :
    ∃ v' w', (Builtin.append_ #[26, 26] ty #[v, .slice a m c]).run Tryd.prog w = .ok v' w' ∧ w'.ownsRow base 5 1 v' (n + m) (xs ++ byV L) ∧ w.grownBy w' v.ownBlock ∧ (v ≠ .slice none 0 0 → v' ≠ .slice none 0 0) := by
  obtain ⟨i0, hi0, hz0, hz1, hz2⟩ := info_parts byteInfo
  cases a with
  | none =>
    obtain ⟨rfl, rfl⟩ := hn rfl
    obtain rfl : m = 0 := hm
    obtain ⟨av, cv, rfl⟩ := ownN_shape hown
    refine ⟨_, _, run_append_nil w _ _ _ i0 Tryd.underlying26 hi0 av n cv (own_le hown), by simpa [byV] using hown, ⟨rfl, rfl, rfl, Nat.le_refl _, fun _ _ _ => rfl⟩, fun q => q⟩
  | some ad =>
    have hnews : ∀ j u, (byV L)[j]? = some u → w.cell? (ad.add j) = some u := fun j u hj => by
      have hjn : j < L.length := by have := (List.getElem?_eq_some_iff.1 hj).1; simpa [byV] using this
      have e : (byV L)[j]? = some (Value.int .u8 ((L.getD j 0 : Nat) : Int)) := by rw [byV, List.getElem?_map, List.getElem?_eq_getElem hjn, List.getD_eq_getElem?_getD, List.getElem?_eq_getElem hjn]; rfl
      rw [e] at hj
      obtain ⟨g, o, e2, hc⟩ := hb j hjn
      injection e2 with e2
      subst e2
      rw [Addr.add_mid]
      exact hc.trans hj
    obtain ⟨v', w', h1, h2, h3, h4, _⟩ := run_append_own_at (P := Tryd.prog) w base 26 ty 5 i0 (.int .u8 0) 1 1 Tryd.underlying26 hi0 hz0 hz1 hz2 rfl (by decide) v n xs hown ad m c (byV L) (by simp [byV, hm]) hnews (by intro u hu; obtain ⟨y, _, rfl⟩ := List.mem_map.1 hu; rfl) (by unfold maxLen; omega) (by omega) hbase
    exact ⟨v', w', h1, h2, h3, fun q e => q (h4.1 e).1⟩
theorem wpList_appendB {ops : Array Oper} {rest : List Oper} {o : Oper} {ac : Act} {w : World} {Q : Exit → Act → World → Prop} (hgd : o.guard = none) (s x : Operand)
    (ho : o.op = .call { callee := .builtin .append, args := #[s, x], argTypes := #[26, 26] }) (base : Nat) (v : Value) (n : Nat) (xs : List Value) (hs : ac.eval s = v) (hown : w.ownsRow base 5 1 v n xs) (a : Option Addr) (m c : Nat) (L : List Nat) (hx : ac.eval x = .slice a m c) (hm : m = L.length) (hb : ByAt w a L) (hn : a = none → L = [] ∧ c = 0) (hl : n + m ≤ 1000000) (hbase : base ≤ w.heap.size)
    (h : ∀ v' w', w'.ownsRow base 5 1 v' (n + m) (xs ++ byV L) → w.grownBy w' v.ownBlock → (v ≠ .slice none 0 0 → v' ≠ .slice none 0 0) → wpList Tryd.prog ops Q rest (ac.put o.dst v') w') : wpList Tryd.prog ops Q (o :: rest) ac w := by
  refine wpList_plain hgd fun K hK => ?_
  obtain ⟨v', w', hr, h2, h3, h4⟩ := run_appendB w base o.type v n xs hown a m c L hm hb hn hl hbase
  unfold Oper.wp execOp
  simp only [ho, resolve, invoke, builtin, Sem.run_bind, Sem.run_pure, Result.andThen_ok, List.map_toArray, List.map_cons, List.map_nil, hs, hx, hr]
  exact hK _ _ (h v' w' h2 h3 h4)
/-- Bytes that lie in a slice, as a call wants them. -/
structure BS (w : World) (L : List Nat) (a : Option Addr) (n c : Nat) (wr : World) : Prop where
  len : n = L.length
  by_ : ByAt wr a L
  nn : a = none → L = [] ∧ c = 0
  lc : L.length ≤ c
  only : Only [] w wr
/-- Once more, twice as long. -/
theorem BS.twice {w : World} {L : List Nat} {a : Option Addr} {n c : Nat} {wr w1 w2 w3 : World} {v1 v2 : Value} (h : BS w L a n c wr) (g1 : Only [] wr w1) {b1 b2 : Option Nat} (hb1 : ∀ k, b1 = some k → wr.heap.size ≤ k) (hb2 : ∀ k, b2 = some k → wr.heap.size ≤ k) (g2 : w1.grownBy w2 b1) (g3 : w2.grownBy w3 b2) (hown : w3.ownsRow wr.heap.size 5 1 v2 (n + n) (byV L ++ byV L)) (hv : v2 ≠ .slice none 0 0) :
    ∃ a' n' c', v2 = .slice a' n' c' ∧ n' = 2 * n ∧ BS w (L ++ L) a' n' c' w3 := by
  have o3 : Only [] wr w3 := (g1.grown g2 (fun k hk => Or.inr (hb1 k hk))).grown g3 (fun k hk => Or.inr (hb2 k hk))
  have hown' : w3.ownsRow wr.heap.size 5 1 v2 (L ++ L).length (byV (L ++ L)) := by
    have e : byV L ++ byV L = byV (L ++ L) := by unfold byV; rw [List.map_append]
    rw [e, h.len, ← List.length_append] at hown
    exact hown
  obtain ⟨g, cc, rfl, _, _, hb, hc⟩ := fresh_of hown' hv
  exact ⟨_, _, _, rfl, by rw [List.length_append, h.len]; omega, rfl, hb, (by simp), hc, h.only.trans o3⟩
theorem run_row5 {ρ : Operand → Value} {o : Oper} {x : Operand} {T : TypeId} (hT : T = 39 ∨ T = 41) {g p : Nat} {s b i m : Int} {v : Value} {w : World} (ho : o.op = .load T x) (hx : ρ x = .pointer (some ⟨g, p, none⟩)) (h : w.rangeAt g p [.int .i64 s, .int .i64 b, .int .i64 i, .int .i64 m, v]) :
    (execOp ρ o).run Tryd.prog w = .ok (.value (.agg #[.int .i64 s, .int .i64 b, .int .i64 i, .int .i64 m, v])) w := by
  have c0 := h 0 _ rfl
  have c1 := h 1 _ rfl
  have c2 := h 2 _ rfl
  have c3 := h 3 _ rfl
  have c4 := h 4 _ rfl
  rw [Nat.add_zero] at c0
  rcases hT with rfl | rfl
  all_goals
    unfold execOp
    rw [ho]
    simp only [hx]
    go_simp
set_option maxRecDepth 100000 in
theorem samePc_calls (P : Pc) (v1 v2 : Value) (B : List Nat) (w : World) (h1 : ReadsAs w v1 B) (h2 : ReadsAs w v2 B) : Calls Tryd.prog 17 #[.agg #[.int .i64 (P.st), .int .i64 (P.ba), .int .i64 (P.ix), .int .i64 (P.mn), v1], .agg #[.int .i64 (P.st), .int .i64 (P.ba), .int .i64 (P.ix), .int .i64 (P.mn), v2]] w fun e w' => e = .returned (.bool true) ∧ Only [] w w' := by
  have HR : Hid (ReadsAs w v1 B ∧ ReadsAs w v2 B) := ⟨h1, h2⟩
  clear h1 h2
  go_enter Tryd.func17, Tryd.ntmps17
  go_upto_region 1 with fail
  have H0 : Hid (PcAt 39 ((w.alloc (.cells #[.int .i64 (P.st), .int .i64 (P.ba), .int .i64 (P.ix), .int .i64 (P.mn), v1] 39)).alloc (.cells #[.int .i64 (P.st), .int .i64 (P.ba), .int .i64 (P.ix), .int .i64 (P.mn), v2] 41)) w.heap.size P v1 ∧ PcAt 41 ((w.alloc (.cells #[.int .i64 (P.st), .int .i64 (P.ba), .int .i64 (P.ix), .int .i64 (P.mn), v1] 39)).alloc (.cells #[.int .i64 (P.st), .int .i64 (P.ba), .int .i64 (P.ix), .int .i64 (P.mn), v2] 41)) (w.heap.size + 1) P v2 ∧ Only [] w ((w.alloc (.cells #[.int .i64 (P.st), .int .i64 (P.ba), .int .i64 (P.ix), .int .i64 (P.mn), v1] 39)).alloc (.cells #[.int .i64 (P.st), .int .i64 (P.ba), .int .i64 (P.ix), .int .i64 (P.mn), v2] 41))) := by
    refine ⟨?_, ?_, ((Only.refl _ _).alloc _).alloc _⟩
    · unfold PcAt; rw [Below.heap_alloc _ _ _ (by simp)]; exact (MapKept.heap_alloc w _).1
    · have := (MapKept.heap_alloc (w.alloc (.cells #[.int .i64 (P.st), .int .i64 (P.ba), .int .i64 (P.ix), .int .i64 (P.mn), v1] 39)) (.cells #[.int .i64 (P.st), .int .i64 (P.ba), .int .i64 (P.ix), .int .i64 (P.mn), v2] 41)).1
      unfold PcAt
      simpa using this
  revert H0
  generalize w.heap.size + 1 = k2
  generalize w.heap.size = k1
  generalize World.alloc (World.alloc w _) _ = w1
  intro H0
  obtain ⟨c0, c1, c2, c3, c4⟩ := H0.out.1.cells
  obtain ⟨d0, d1, d2, d3, d4⟩ := H0.out.2.1.cells
  have e1 := HR.out.1 w1 H0.out.2.2
  have e2 := HR.out.2 w1 H0.out.2.2
  go_wp2_with fail
  go_ret
  exact ⟨ret_bool (by simp), H0.out.2.2⟩
def eF (er : Nat) : Value := if er = 0 then .nilIface else errV (er : Int)
theorem bareE_calls (er : Nat) (w : World) (hg : EtIs w) : Calls Tryd.prog 10 #[eF er, .int .i64 ((er : Int))] w fun e w' => e = .returned (.bool true) ∧ Only [] w w' := by
  by_cases h : er = 0
  · subst h
    exact bare_none w
  · unfold eF
    rw [if_neg h]
    exact bare_yes (er : Int) w hg
/-- Pieces side by side. -/
def PSide (w : World) (ap ar : Option Addr) (M : Nat) : Prop :=
  ∀ j, j < M → ∃ (g1 g2 : Nat) (P : Pc) (a1 : Option Addr) (m1 c1 : Nat) (a2 : Option Addr) (m2 c2 : Nat) (B : List Nat), ap = some ⟨g1, 0, none⟩ ∧ ar = some ⟨g2, 0, none⟩ ∧ w.rangeAt g1 (j * 5) [.int .i64 (P.st), .int .i64 (P.ba), .int .i64 (P.ix), .int .i64 (P.mn), .slice a1 m1 c1] ∧ w.rangeAt g2 (j * 5) [.int .i64 (P.st), .int .i64 (P.ba), .int .i64 (P.ix), .int .i64 (P.mn), .slice a2 m2 c2] ∧ ReadsAs w (.slice a1 m1 c1) B ∧ ReadsAs w (.slice a2 m2 c2) B
theorem cuts_both {st ba : Int} {L : List Nat} {w w1 : World} {e1 : Ending} (h : RCutPost st ba L w e1 w1) : ∃ (ar : Option Addr) (M cr er : Nat), e1 = .returned (.tuple #[.slice ar M cr, .int .i64 ((er : Int))]) ∧ M ≤ 40 ∧ ∀ w2 e2, CutPost st ba L w1 e2 w2 → ∃ ap cp, e2 = .returned (.tuple #[.slice ap M cp, eF er]) ∧ PSide w2 ap ar M := by
  obtain ⟨o1, ⟨f1, e⟩ | ⟨f1, f2, e⟩ | ⟨f1, f2, gl, cl, e, _, _, hp⟩⟩ := h
  · refine ⟨none, 0, 0, 2, e, by omega, fun w2 e2 h2 => ?_⟩
    obtain ⟨o2, ⟨g1, e'⟩ | ⟨g1, g2, e'⟩ | ⟨g1, g2, gp, e', _, hq⟩⟩ := h2
    · exact ⟨none, 0, e', fun j hj => by omega⟩
    · rw [f1] at g1; cases g1
    · rw [f1] at g1; cases g1
  · refine ⟨none, 0, 0, 4, e, by omega, fun w2 e2 h2 => ?_⟩
    obtain ⟨o2, ⟨g1, e'⟩ | ⟨g1, g2, e'⟩ | ⟨g1, g2, gp, e', _, hq⟩⟩ := h2
    · rw [f1] at g1; cases g1
    · exact ⟨none, 0, e', fun j hj => by omega⟩
    · omega
  · refine ⟨_, manyM L, cl, 0, e, by unfold manyM; omega, fun w2 e2 h2 => ?_⟩
    obtain ⟨o2, ⟨g1, e'⟩ | ⟨g1, g2, e'⟩ | ⟨g1, g2, gp, e', _, hq⟩⟩ := h2
    · rw [f1] at g1; cases g1
    · omega
    · refine ⟨_, _, e', fun j hj => ?_⟩
      obtain ⟨v1, r1, s1⟩ := hq.2 j hj
      obtain ⟨v2, r2, s2⟩ := (hp.keep o2).2 j hj
      have q1 := s1.sb.reads
      have q2 := s2.sb.reads
      obtain ⟨a1, c1, rfl, _⟩ := s1
      obtain ⟨a2, c2, rfl, _⟩ := s2
      exact ⟨gp, gl, ⟨st, ba, (j : Int), (manyM L : Int)⟩, _, _, _, _, _, _, _, rfl, rfl, r1, r2, q1, q2⟩
end Go.Proofs.YtbiaajncngldlaaDoor
