/- Comparing vectors and seen ones. -/
import Derived.Test.YtedhdmahdioboaaSn5
namespace Go.Proofs.Ytedhdmahdioboaa
open Go.ChangeShapes Go.WideShapes Go.ChangeAt Go.RowKit
set_option linter.unusedVariables false
set_option linter.unusedSimpArgs false

def eqS (u v : Sn) : Bool := (u.id == v.id) && ((u.kd == v.kd) && ((u.sx == v.sx) && ((u.sy == v.sy) && ((u.sz == v.sz) && ((u.ax == v.ax) && ((u.ay == v.ay) && ((u.az == v.az) && ((u.vx == v.vx) && ((u.vy == v.vy) && (u.vz == v.vz))))))))))
theorem run_eqS (ρ : Operand → Value) (o : Oper) (x y : Operand) (u v : Sn) (w : World) (ho : o.op = .binOp .eql 120 x y 120) (hx : ρ x = .agg #[.int .i64 (u.id), .int .i64 (u.kd), .int .i64 (u.sx), .int .i64 (u.sy), .int .i64 (u.sz), .int .i64 (u.ax), .int .i64 (u.ay), .int .i64 (u.az), .int .i64 (u.vx), .int .i64 (u.vy), .int .i64 (u.vz)]) (hy : ρ y = .agg #[.int .i64 (v.id), .int .i64 (v.kd), .int .i64 (v.sx), .int .i64 (v.sy), .int .i64 (v.sz), .int .i64 (v.ax), .int .i64 (v.ay), .int .i64 (v.az), .int .i64 (v.vx), .int .i64 (v.vy), .int .i64 (v.vz)]) :
    (execOp ρ o).run Try.prog w = .ok (.value (.bool (eqS u v))) w := by
  unfold execOp
  rw [ho]
  simp only [hx, hy]
  go_simp
  unfold eqS
  (repeat' split) <;> simp_all
theorem run_neqV2 (ρ : Operand → Value) (o : Oper) (x y : Operand) (a b c p q r : Int) (w : World) (ho : o.op = .binOp .neq 27 x y 27) (hx : ρ x = .agg #[.int .i64 a, .int .i64 b, .int .i64 c]) (hy : ρ y = .agg #[.int .i64 p, .int .i64 q, .int .i64 r]) :
    (execOp ρ o).run Try.prog w = .ok (.value (.bool (!((a == p) && ((b == q) && (c == r)))))) w := by
  unfold execOp
  rw [ho]
  simp only [hx, hy]
  go_simp
  (repeat' split) <;> simp_all
theorem eqS_iff (u v : Sn) : eqS u v = true ↔ u = v := by
  unfold eqS
  constructor
  · intro h
    simp only [Bool.and_eq_true, beq_iff_eq] at h
    obtain ⟨h0, h1, h2, h3, h4, h5, h6, h7, h8, h9, h10⟩ := h
    cases u; cases v
    simp_all
  · rintro rfl
    simp
theorem wpList_eqS {ops : Array Oper} {rest : List Oper} {o : Oper} {a : Act} {w : World} {Q : Exit → Act → World → Prop} {u v : Sn} (b : Bool) (hb : eqS u v = b) (hg : o.guard = none) (x y : Operand) (ho : o.op = .binOp .eql 120 x y 120) (hx : a.eval x = .agg #[.int .i64 (u.id), .int .i64 (u.kd), .int .i64 (u.sx), .int .i64 (u.sy), .int .i64 (u.sz), .int .i64 (u.ax), .int .i64 (u.ay), .int .i64 (u.az), .int .i64 (u.vx), .int .i64 (u.vy), .int .i64 (u.vz)]) (hy : a.eval y = .agg #[.int .i64 (v.id), .int .i64 (v.kd), .int .i64 (v.sx), .int .i64 (v.sy), .int .i64 (v.sz), .int .i64 (v.ax), .int .i64 (v.ay), .int .i64 (v.az), .int .i64 (v.vx), .int .i64 (v.vy), .int .i64 (v.vz)])
    (h : wpList Try.prog ops Q rest (a.put o.dst (.bool b)) w) : wpList Try.prog ops Q (o :: rest) a w := by
  refine wpList_plain hg fun K hK => ?_
  unfold Oper.wp
  rw [run_eqS _ _ x y u v w ho hx hy, Oper.upon_value, hb]
  exact hK _ _ h
def neqV (a b c p q r : Int) : Bool := !((a == p) && ((b == q) && (c == r)))
theorem wpList_neqV2 {ops : Array Oper} {rest : List Oper} {o : Oper} {a : Act} {w : World} {Q : Exit → Act → World → Prop} {v0 v1 v2 u0 u1 u2 : Int} (b : Bool) (hb : neqV v0 v1 v2 u0 u1 u2 = b) (hg : o.guard = none) (x y : Operand) (ho : o.op = .binOp .neq 27 x y 27) (hx : a.eval x = .agg #[.int .i64 v0, .int .i64 v1, .int .i64 v2]) (hy : a.eval y = .agg #[.int .i64 u0, .int .i64 u1, .int .i64 u2])
    (h : wpList Try.prog ops Q rest (a.put o.dst (.bool b)) w) : wpList Try.prog ops Q (o :: rest) a w := by
  refine wpList_plain hg fun K hK => ?_
  unfold Oper.wp
  subst hb
  rw [run_neqV2 _ _ x y v0 v1 v2 u0 u1 u2 w ho hx hy, Oper.upon_value]
  exact hK _ _ h
/-- Which parts differ: size or kind, place, speed. -/
def d4 (u v : Sn) : Bool := neqV u.sx u.sy u.sz v.sx v.sy v.sz || (u.kd != v.kd)
def d2 (u v : Sn) : Bool := neqV u.ax u.ay u.az v.ax v.ay v.az
def d1 (u v : Sn) : Bool := neqV u.vx u.vy u.vz v.vx v.vy v.vz
def pN (a b c : Bool) : Int := (if a then 4 else 0) + (if b then 2 else 0) + (if c then 1 else 0)
set_option maxHeartbeats 2000000 in
theorem differing_calls (u v : Sn) (w : World) : Calls Try.prog 160 #[.agg #[.int .i64 (u.id), .int .i64 (u.kd), .int .i64 (u.sx), .int .i64 (u.sy), .int .i64 (u.sz), .int .i64 (u.ax), .int .i64 (u.ay), .int .i64 (u.az), .int .i64 (u.vx), .int .i64 (u.vy), .int .i64 (u.vz)], .agg #[.int .i64 (v.id), .int .i64 (v.kd), .int .i64 (v.sx), .int .i64 (v.sy), .int .i64 (v.sz), .int .i64 (v.ax), .int .i64 (v.ay), .int .i64 (v.az), .int .i64 (v.vx), .int .i64 (v.vy), .int .i64 (v.vz)]] w fun e w' => e = .returned (.int .i64 (pN (d4 u v) (d2 u v) (d1 u v))) ∧ Only [] w w' := by
  have hr : ∀ k : Int, k = pN (d4 u v) (d2 u v) (d1 u v) → Ending.returned (.int .i64 k) = .returned (.int .i64 (pN (d4 u v) (d2 u v) (d1 u v))) := fun k e => by rw [e]
  have HP : Hid (∀ k : Int, k = pN (d4 u v) (d2 u v) (d1 u v) → Ending.returned (.int .i64 k) = .returned (.int .i64 (pN (d4 u v) (d2 u v) (d1 u v)))) := hr
  clear hr
  cases h4 : neqV u.sx u.sy u.sz v.sx v.sy v.sz <;> cases hk : (u.kd != v.kd) <;> cases h2 : neqV u.ax u.ay u.az v.ax v.ay v.az <;> cases h1 : neqV u.vx u.vy u.vz v.vx v.vy v.vz
  all_goals
    have HD : Hid (d4 u v = (neqV u.sx u.sy u.sz v.sx v.sy v.sz || (u.kd != v.kd)) ∧ d2 u v = neqV u.ax u.ay u.az v.ax v.ay v.az ∧ d1 u v = neqV u.vx u.vy u.vz v.vx v.vy v.vz) := ⟨rfl, rfl, rfl⟩
    rw [h4, hk, h2, h1] at HD
    go_enter Try.func160, Try.ntmps160
    go_wp2_with (first | (refine wpList_neqV2 _ h4 rfl (.tmp 7) (.tmp 9) rfl rfl rfl ?_) | (refine wpList_neqV2 _ h2 rfl (.tmp 21) (.tmp 23) rfl rfl rfl ?_) | (refine wpList_neqV2 _ h1 rfl (.tmp 28) (.tmp 30) rfl rfl rfl ?_))
    go_ret
    exact ⟨HP.out _ (by rw [HD.out.1, HD.out.2.1, HD.out.2.2]; rfl), ((Only.refl [] w).alloc _).alloc _⟩
end Go.Proofs.Ytedhdmahdioboaa
