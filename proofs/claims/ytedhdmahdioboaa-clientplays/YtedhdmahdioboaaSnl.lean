/- What the second loop of gyreref.Delta keeps. -/
import Derived.Test.YtedhdmahdioboaaSnj
import Derived.Test.YtedhdmahdioboaaSnp
namespace Go.Proofs.Ytedhdmahdioboaa
open Go.ChangeShapes Go.WideShapes Go.ChangeAt Go.RowKit
set_option linter.unusedVariables false
set_option linter.unusedSimpArgs false

theorem run_eqR (ρ : Operand → Value) (o : Oper) (x y : Operand) (u v : Sn) (w : World) (ho : o.op = .binOp .eql 116 x y 116) (hx : ρ x = .agg #[.int .i64 (u.id), .int .i64 (u.kd), .int .i64 (u.sx), .int .i64 (u.sy), .int .i64 (u.sz), .int .i64 (u.ax), .int .i64 (u.ay), .int .i64 (u.az), .int .i64 (u.vx), .int .i64 (u.vy), .int .i64 (u.vz)]) (hy : ρ y = .agg #[.int .i64 (v.id), .int .i64 (v.kd), .int .i64 (v.sx), .int .i64 (v.sy), .int .i64 (v.sz), .int .i64 (v.ax), .int .i64 (v.ay), .int .i64 (v.az), .int .i64 (v.vx), .int .i64 (v.vy), .int .i64 (v.vz)]) :
    (execOp ρ o).run Try.prog w = .ok (.value (.bool (eqS u v))) w := by
  unfold execOp
  rw [ho]
  simp only [hx, hy]
  go_simp
  unfold eqS
  (repeat' split) <;> simp_all
theorem wpList_eqR {ops : Array Oper} {rest : List Oper} {o : Oper} {a : Act} {w : World} {Q : Exit → Act → World → Prop} {u v : Sn} (b : Bool) (hb : eqS u v = b) (hg : o.guard = none) (x y : Operand) (ho : o.op = .binOp .eql 116 x y 116) (hx : a.eval x = .agg #[.int .i64 (u.id), .int .i64 (u.kd), .int .i64 (u.sx), .int .i64 (u.sy), .int .i64 (u.sz), .int .i64 (u.ax), .int .i64 (u.ay), .int .i64 (u.az), .int .i64 (u.vx), .int .i64 (u.vy), .int .i64 (u.vz)]) (hy : a.eval y = .agg #[.int .i64 (v.id), .int .i64 (v.kd), .int .i64 (v.sx), .int .i64 (v.sy), .int .i64 (v.sz), .int .i64 (v.ax), .int .i64 (v.ay), .int .i64 (v.az), .int .i64 (v.vx), .int .i64 (v.vy), .int .i64 (v.vz)])
    (h : wpList Try.prog ops Q rest (a.put o.dst (.bool b)) w) : wpList Try.prog ops Q (o :: rest) a w := by
  refine wpList_plain hg fun K hK => ?_
  unfold Oper.wp
  rw [run_eqR _ _ x y u v w ho hx hy, Oper.upon_value, hb]
  exact hK _ _ h
structure PB (w : World) (kb : Nat) (K : List Nat) (xs : List Int) (F T : List Sn) (j : Nat) (F1 T1 : List Sn) (f : Nat) (l : List Nat) (la m : Int) (w0 wr : World) : Prop where
  rb : RB w kb K l wr
  same : ∀ k ∈ K, wr.heap[k]? = w0.heap[k]?
  rest : xs.drop j = idsM f F1 T1
  ff : Finds m F F1
  ft : Finds m T T1
  rf : Ris m F1
  rt : Ris m T1
  la0 : 0 ≤ la
  lam : la ≤ m
  lf : F1.length ≤ 60
  lt : T1.length ≤ 60
  fuel : F1.length + T1.length ≤ f
  len : l.length + 56 * F1.length + 600 * T1.length ≤ 56 * F.length + 600 * T.length
  all : l ++ deltaM f F1 T1 la = deltaM (F.length + T.length) F T 0
/-- The next number: what it finds. -/
theorem PB.low {w : World} {kb : Nat} {K : List Nat} {xs : List Int} {F T : List Sn} {j : Nat} {F1 T1 : List Sn} {f : Nat} {l : List Nat} {la m : Int} {w0 wr : World} (h : PB w kb K xs F T j F1 T1 f l la m w0 wr) (hj : j < xs.length) :
    ¬ (F1 = [] ∧ T1 = []) ∧ xs[j] = lowId F1 T1 ∧ m < lowId F1 T1 ∧ lowId F1 T1 ≤ 1099511627776 ∧ xs.drop (j + 1) = idsM (f - 1) (takeL (lowId F1 T1) F1) (takeL (lowId F1 T1) T1) ∧
    findS (lowId F1 T1) F = takeS (lowId F1 T1) F1 ∧ hasS (lowId F1 T1) F = decide ((takeS (lowId F1 T1) F1).id ≠ 0) ∧ findS (lowId F1 T1) T = takeS (lowId F1 T1) T1 ∧ hasS (lowId F1 T1) T = decide ((takeS (lowId F1 T1) T1).id ≠ 0) := by
  have h1 := h.rest
  rw [List.drop_eq_getElem_cons hj] at h1
  have hn : ¬ (F1 = [] ∧ T1 = []) := fun ⟨e1, e2⟩ => by rw [e1, e2, idsM_nil] at h1; cases h1
  cases f with
  | zero => simp [idsM] at h1; omega
  | succ f =>
    rw [idsM_step hn] at h1
    injection h1 with h2 h3
    obtain ⟨l1, l2, l3⟩ := lowId_le h.rf h.rt hn
    have hla := h.la0
    have hlm := h.lam
    have ff := find_low h.ff l1 h.rf l2 (by omega)
    have ft := find_low h.ft l1 h.rt l3 (by omega)
    refine ⟨hn, h2, l1, ?_, h3, ff.1, ff.2, ft.1, ft.2⟩
    cases F1 with
    | nil =>
      cases T1 with
      | nil => exact absurd ⟨rfl, rfl⟩ hn
      | cons t T1 => exact h.rt.2.1
    | cons s F1 => exact Int.le_trans (l2 s F1 rfl) h.rf.2.1
theorem PB.next {w : World} {kb : Nat} {K K' : List Nat} {xs : List Int} {F T : List Sn} {j : Nat} {F1 T1 : List Sn} {f : Nat} {l : List Nat} {la m : Int} {w0 wr w' : World} (h : PB w kb K xs F T j F1 T1 f l la m w0 wr) (hj : j < xs.length)
    (hr : RB w kb K' (l ++ chgB la (takeS (lowId F1 T1) F1) (takeS (lowId F1 T1) T1)) w') (hk : ∀ k ∈ K, k ∈ K') (hs : ∀ k ∈ K, w'.heap[k]? = w0.heap[k]?) (hlen : (chgB la (takeS (lowId F1 T1) F1) (takeS (lowId F1 T1) T1)).length + 56 * (takeL (lowId F1 T1) F1).length + 600 * (takeL (lowId F1 T1) T1).length ≤ 56 * F1.length + 600 * T1.length) :
    PB w kb K xs F T (j + 1) (takeL (lowId F1 T1) F1) (takeL (lowId F1 T1) T1) (f - 1) (l ++ chgB la (takeS (lowId F1 T1) F1) (takeS (lowId F1 T1) T1)) (chgL la (takeS (lowId F1 T1) F1) (takeS (lowId F1 T1) T1)) (lowId F1 T1) w0 w' := by
  obtain ⟨hn, e1, l1, _, hd, _⟩ := h.low hj
  obtain ⟨_, l2, l3⟩ := lowId_le h.rf h.rt hn
  obtain ⟨s1, s2, s3⟩ := take_shorter hn
  have hm := h.lam
  have h0 := h.la0
  have c1 := chgL_le h0 (show la < lowId F1 T1 by omega) (takeS_id (F := F1)) (takeS_id (F := T1)) (ok_take (la := m) (by omega) h.rf).none_ (ok_take (la := m) (by omega) h.rt).none_
  have q1 := h.fuel
  have q2 := h.lf
  have q3 := h.lt
  have q4 := h.len
  refine ⟨hr.less hk, hs, hd, h.ff.take (by omega), h.ft.take (by omega), ris_take h.rf l2, ris_take h.rt l3, c1.2, c1.1, by omega, by omega, by omega, by rw [List.length_append]; omega, ?_⟩
  rw [← h.all]
  obtain ⟨f', rfl⟩ : ∃ f', f = f' + 1 := ⟨f - 1, by omega⟩
  rw [deltaM_step la hn, List.append_assoc]
  rfl
end Go.Proofs.Ytedhdmahdioboaa
