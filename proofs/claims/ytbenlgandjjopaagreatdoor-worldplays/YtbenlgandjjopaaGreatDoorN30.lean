/- . -/
import Derived.Test.YtbenlgandjjopaaGreatDoorN29
open Go.World renaming cell?_setCell_other → zra,frozen?_setCell → zrb
open List renaming mem_cons → zrd
namespace Go.Proofs.YtbenlgandjjopaaGreatDoor
set_option maxRecDepth 100000
set_option maxHeartbeats 8000000
open Go.ChangeShapes Go.WideShapes Go.ChangeAt Go.RowKit
set_option linter.unusedSimpArgs false
variable {w1 w w2 : World} {b0 b1 b2 b3 b4 : Nat} {v0 v1 v2 v3 v4 v5 v6 v7 v8 v9 v10 v11 v12 v13 v14 v15 v16 v17 v18 v19 : Value} {x y z d : Int}
def RT (w : World) (b0 b1 b2 b3 b4 : Nat) (v0 v1 v2 v3 v4 v5 v6 v7 v8 v9 v10 : Value) (w' : World) : Prop :=
 Kept w w' ∧
 w'.cell? ⟨b0,0,none⟩ = some v0 ∧
 w'.cell? ⟨b0,1,none⟩ = some v1 ∧
 w'.cell? ⟨b0,2,none⟩ = some v2 ∧
 w'.cell? ⟨b0,3,none⟩ = some v3 ∧
 w'.cell? ⟨b1,0,none⟩ = some v4 ∧
 w'.cell? ⟨b1,1,none⟩ = some v5 ∧
 w'.cell? ⟨b1,2,none⟩ = some v6 ∧
 w'.cell? ⟨b1,3,none⟩ = some v7 ∧
 w'.cell? ⟨b2,0,none⟩ = some v8 ∧
 w'.cell? ⟨b2,1,none⟩ = some v9 ∧
 w'.cell? ⟨b2,2,none⟩ = some v10 ∧
 w'.cell? ⟨b3,0,none⟩ = some (cellV w' ⟨b3,0,none⟩) ∧
 w'.cell? ⟨b3,1,none⟩ = some (cellV w' ⟨b3,1,none⟩) ∧
 w'.cell? ⟨b3,2,none⟩ = some (cellV w' ⟨b3,2,none⟩) ∧
 w'.frozen? ⟨b3,0,none⟩ = false ∧
 w'.frozen? ⟨b3,1,none⟩ = false ∧
 w'.frozen? ⟨b3,2,none⟩ = false ∧
 w'.cell? ⟨b4,0,none⟩ = some (cellV w' ⟨b4,0,none⟩) ∧
 w'.cell? ⟨b4,1,none⟩ = some (cellV w' ⟨b4,1,none⟩) ∧
 w'.cell? ⟨b4,2,none⟩ = some (cellV w' ⟨b4,2,none⟩) ∧
 w'.frozen? ⟨b4,0,none⟩ = false ∧
 w'.frozen? ⟨b4,1,none⟩ = false ∧
 w'.frozen? ⟨b4,2,none⟩ = false
theorem RT.step (k : Kept w1 w2) (h : RT w b0 b1 b2 b3 b4 v0 v1 v2 v3 v4 v5 v6 v7 v8 v9 v10 w1) : RT w b0 b1 b2 b3 b4 v0 v1 v2 v3 v4 v5 v6 v7 v8 v9 v10 w2 := by
 obtain ⟨h0,h1,h2,h3,h4,h5,h6,h7,h8,h9,h10,h11,h12,h13,h14,h15,h16,h17,h18,h19,h20,h21,h22,h23⟩ := h;exact ⟨h0.trans k,y00 k h1,y00 k h2,y00 k h3,y00 k h4,y00 k h5,y00 k h6,y00 k h7,y00 k h8,y00 k h9,y00 k h10,y00 k h11,y06 k h12,y06 k h13,y06 k h14,y01 k h15,y01 k h16,y01 k h17,y06 k h18,y06 k h19,y06 k h20,y01 k h21,y01 k h22,y01 k h23⟩
theorem RT.drew {w w1 : World} {b0 b1 b2 b3 b4 : Nat} {v0 v1 v2 v3 v4 v5 v6 v7 v8 v9 v10 : Value} (h : RT w b0 b1 b2 b3 b4 v0 v1 v2 v3 v4 v5 v6 v7 v8 v9 v10 w1) : RT w b0 b1 b2 b3 b4 v0 v1 v2 v3 v4 v5 v6 v7 v8 v9 v10 w1.drew := h.step kd
theorem RT.put0 (i : Nat) (v : Value) (ho : w.heap.size ≤ b3) (n0 : b0 ≠ b3) (n1 : b1 ≠ b3) (n2 : b2 ≠ b3) (h : RT w b0 b1 b2 b3 b4 v0 v1 v2 v3 v4 v5 v6 v7 v8 v9 v10 w1) : RT w b0 b1 b2 b3 b4 v0 v1 v2 v3 v4 v5 v6 v7 v8 v9 v10 (w1.setCell (Y b3 i) v) := by
 obtain ⟨h0,h1,h2,h3,h4,h5,h6,h7,h8,h9,h10,h11,h12,h13,h14,h15,h16,h17,h18,h19,h20,h21,h22,h23⟩ := h;exact ⟨h0.setCell (p := Y b3 i) ho v,(zf n0).trans h1,(zf n0).trans h2,(zf n0).trans h3,(zf n0).trans h4,(zf n1).trans h5,(zf n1).trans h6,(zf n1).trans h7,(zf n1).trans h8,(zf n2).trans h9,(zf n2).trans h10,(zf n2).trans h11,y04 h12,y04 h13,y04 h14,(zrb _ _ _ _).trans h15,(zrb _ _ _ _).trans h16,(zrb _ _ _ _).trans h17,y04 h18,y04 h19,y04 h20,(zrb _ _ _ _).trans h21,(zrb _ _ _ _).trans h22,(zrb _ _ _ _).trans h23⟩
def RU (w : World) (b0 b1 b2 b3 : Nat) (v0 v1 v2 v3 v4 v5 v6 : Value) (w' : World) : Prop :=
 Kept w w' ∧
 w'.cell? ⟨b0,0,none⟩ = some v0 ∧
 w'.cell? ⟨b0,1,none⟩ = some v1 ∧
 w'.cell? ⟨b0,2,none⟩ = some v2 ∧
 w'.cell? ⟨b0,3,none⟩ = some v3 ∧
 w'.cell? ⟨b1,0,none⟩ = some v4 ∧
 w'.cell? ⟨b1,1,none⟩ = some v5 ∧
 w'.cell? ⟨b1,2,none⟩ = some v6 ∧
 w'.cell? ⟨b2,0,none⟩ = some (cellV w' ⟨b2,0,none⟩) ∧
 w'.cell? ⟨b2,1,none⟩ = some (cellV w' ⟨b2,1,none⟩) ∧
 w'.cell? ⟨b2,2,none⟩ = some (cellV w' ⟨b2,2,none⟩) ∧
 w'.frozen? ⟨b2,0,none⟩ = false ∧
 w'.frozen? ⟨b2,1,none⟩ = false ∧
 w'.frozen? ⟨b2,2,none⟩ = false ∧
 w'.cell? ⟨b3,0,none⟩ = some (cellV w' ⟨b3,0,none⟩) ∧
 w'.cell? ⟨b3,1,none⟩ = some (cellV w' ⟨b3,1,none⟩) ∧
 w'.cell? ⟨b3,2,none⟩ = some (cellV w' ⟨b3,2,none⟩) ∧
 w'.frozen? ⟨b3,0,none⟩ = false ∧
 w'.frozen? ⟨b3,1,none⟩ = false ∧
 w'.frozen? ⟨b3,2,none⟩ = false
theorem RU.step (k : Kept w1 w2) (h : RU w b0 b1 b2 b3 v0 v1 v2 v3 v4 v5 v6 w1) : RU w b0 b1 b2 b3 v0 v1 v2 v3 v4 v5 v6 w2 := by
 obtain ⟨h0,h1,h2,h3,h4,h5,h6,h7,h8,h9,h10,h11,h12,h13,h14,h15,h16,h17,h18,h19⟩ := h;exact ⟨h0.trans k,y00 k h1,y00 k h2,y00 k h3,y00 k h4,y00 k h5,y00 k h6,y00 k h7,y06 k h8,y06 k h9,y06 k h10,y01 k h11,y01 k h12,y01 k h13,y06 k h14,y06 k h15,y06 k h16,y01 k h17,y01 k h18,y01 k h19⟩
theorem RU.drew {w w1 : World} {b0 b1 b2 b3 : Nat} {v0 v1 v2 v3 v4 v5 v6 : Value} (h : RU w b0 b1 b2 b3 v0 v1 v2 v3 v4 v5 v6 w1) : RU w b0 b1 b2 b3 v0 v1 v2 v3 v4 v5 v6 w1.drew := h.step kd
theorem RU.put0 (i : Nat) (v : Value) (ho : w.heap.size ≤ b2) (n0 : b0 ≠ b2) (n1 : b1 ≠ b2) (h : RU w b0 b1 b2 b3 v0 v1 v2 v3 v4 v5 v6 w1) : RU w b0 b1 b2 b3 v0 v1 v2 v3 v4 v5 v6 (w1.setCell (Y b2 i) v) := by
 obtain ⟨h0,h1,h2,h3,h4,h5,h6,h7,h8,h9,h10,h11,h12,h13,h14,h15,h16,h17,h18,h19⟩ := h;exact ⟨h0.setCell (p := Y b2 i) ho v,(zf n0).trans h1,(zf n0).trans h2,(zf n0).trans h3,(zf n0).trans h4,(zf n1).trans h5,(zf n1).trans h6,(zf n1).trans h7,y04 h8,y04 h9,y04 h10,(zrb _ _ _ _).trans h11,(zrb _ _ _ _).trans h12,(zrb _ _ _ _).trans h13,y04 h14,y04 h15,y04 h16,(zrb _ _ _ _).trans h17,(zrb _ _ _ _).trans h18,(zrb _ _ _ _).trans h19⟩
def ShA6 (w : World) (b0 b1 b2 b3 b4 : Nat) (v0 v1 v2 v3 v4 v5 v6 v7 v8 v9 v10 v11 v12 v13 v14 v15 v16 v17 v18 v19 : Value) (w' : World) : Prop :=
 Kept w w' ∧
 w'.cell? ⟨b0,0,none⟩ = some v0 ∧
 w'.cell? ⟨b0,1,none⟩ = some v1 ∧
 w'.cell? ⟨b0,2,none⟩ = some v2 ∧
 w'.cell? ⟨b0,3,none⟩ = some v3 ∧
 w'.cell? ⟨b1,0,none⟩ = some v4 ∧
 w'.cell? ⟨b1,1,none⟩ = some v5 ∧
 w'.cell? ⟨b1,2,none⟩ = some v6 ∧
 w'.cell? ⟨b2,0,none⟩ = some v7 ∧
 w'.cell? ⟨b2,1,none⟩ = some v8 ∧
 w'.cell? ⟨b2,2,none⟩ = some v9 ∧
 w'.cell? ⟨b2,3,none⟩ = some v10 ∧
 w'.cell? ⟨b3,0,none⟩ = some v11 ∧
 w'.cell? ⟨b3,1,none⟩ = some v12 ∧
 w'.cell? ⟨b3,2,none⟩ = some v13 ∧
 w'.cell? ⟨b4,0,none⟩ = some v14 ∧
 w'.cell? ⟨b4,1,none⟩ = some v15 ∧
 w'.cell? ⟨b4,2,none⟩ = some v16 ∧
 w'.cell? ⟨b4,3,none⟩ = some v17 ∧
 w'.cell? ⟨b4,4,none⟩ = some v18 ∧
 w'.cell? ⟨b4,5,none⟩ = some v19
theorem ShA6.step (k : Kept w1 w2) (h : ShA6 w b0 b1 b2 b3 b4 v0 v1 v2 v3 v4 v5 v6 v7 v8 v9 v10 v11 v12 v13 v14 v15 v16 v17 v18 v19 w1) : ShA6 w b0 b1 b2 b3 b4 v0 v1 v2 v3 v4 v5 v6 v7 v8 v9 v10 v11 v12 v13 v14 v15 v16 v17 v18 v19 w2 := by
 obtain ⟨h0,h1,h2,h3,h4,h5,h6,h7,h8,h9,h10,h11,h12,h13,h14,h15,h16,h17,h18,h19,h20⟩ := h;exact ⟨h0.trans k,y00 k h1,y00 k h2,y00 k h3,y00 k h4,y00 k h5,y00 k h6,y00 k h7,y00 k h8,y00 k h9,y00 k h10,y00 k h11,y00 k h12,y00 k h13,y00 k h14,y00 k h15,y00 k h16,y00 k h17,y00 k h18,y00 k h19,y00 k h20⟩
theorem ShA6.drew {w w1 : World} {b0 b1 b2 b3 b4 : Nat} {v0 v1 v2 v3 v4 v5 v6 v7 v8 v9 v10 v11 v12 v13 v14 v15 v16 v17 v18 v19 : Value} (h : ShA6 w b0 b1 b2 b3 b4 v0 v1 v2 v3 v4 v5 v6 v7 v8 v9 v10 v11 v12 v13 v14 v15 v16 v17 v18 v19 w1) : ShA6 w b0 b1 b2 b3 b4 v0 v1 v2 v3 v4 v5 v6 v7 v8 v9 v10 v11 v12 v13 v14 v15 v16 v17 v18 v19 w1.drew := h.step kd
def ShA6At (b0 b1 b2 b3 b4 : Nat) (v0 v1 v2 v3 v4 v5 v6 v7 v8 v9 v10 v11 v12 v13 v14 v15 v16 v17 v18 v19 : Value) (w' : World) : Prop :=
 w'.cell? ⟨b0,0,none⟩ = some v0 ∧
 w'.cell? ⟨b0,1,none⟩ = some v1 ∧
 w'.cell? ⟨b0,2,none⟩ = some v2 ∧
 w'.cell? ⟨b0,3,none⟩ = some v3 ∧
 w'.cell? ⟨b1,0,none⟩ = some v4 ∧
 w'.cell? ⟨b1,1,none⟩ = some v5 ∧
 w'.cell? ⟨b1,2,none⟩ = some v6 ∧
 w'.cell? ⟨b2,0,none⟩ = some v7 ∧
 w'.cell? ⟨b2,1,none⟩ = some v8 ∧
 w'.cell? ⟨b2,2,none⟩ = some v9 ∧
 w'.cell? ⟨b2,3,none⟩ = some v10 ∧
 w'.cell? ⟨b3,0,none⟩ = some v11 ∧
 w'.cell? ⟨b3,1,none⟩ = some v12 ∧
 w'.cell? ⟨b3,2,none⟩ = some v13 ∧
 w'.cell? ⟨b4,0,none⟩ = some v14 ∧
 w'.cell? ⟨b4,1,none⟩ = some v15 ∧
 w'.cell? ⟨b4,2,none⟩ = some v16 ∧
 w'.cell? ⟨b4,3,none⟩ = some v17 ∧
 w'.cell? ⟨b4,4,none⟩ = some v18 ∧
 w'.cell? ⟨b4,5,none⟩ = some v19
theorem ShA6At.step (k : Kept w1 w2) (h : ShA6At b0 b1 b2 b3 b4 v0 v1 v2 v3 v4 v5 v6 v7 v8 v9 v10 v11 v12 v13 v14 v15 v16 v17 v18 v19 w1) : ShA6At b0 b1 b2 b3 b4 v0 v1 v2 v3 v4 v5 v6 v7 v8 v9 v10 v11 v12 v13 v14 v15 v16 v17 v18 v19 w2 := by
 obtain ⟨h1,h2,h3,h4,h5,h6,h7,h8,h9,h10,h11,h12,h13,h14,h15,h16,h17,h18,h19,h20⟩ := h;exact ⟨y00 k h1,y00 k h2,y00 k h3,y00 k h4,y00 k h5,y00 k h6,y00 k h7,y00 k h8,y00 k h9,y00 k h10,y00 k h11,y00 k h12,y00 k h13,y00 k h14,y00 k h15,y00 k h16,y00 k h17,y00 k h18,y00 k h19,y00 k h20⟩
theorem ShA6At.start (h : ShA6At b0 b1 b2 b3 b4 v0 v1 v2 v3 v4 v5 v6 v7 v8 v9 v10 v11 v12 v13 v14 v15 v16 v17 v18 v19 w1) : ShA6 w1 b0 b1 b2 b3 b4 v0 v1 v2 v3 v4 v5 v6 v7 v8 v9 v10 v11 v12 v13 v14 v15 v16 v17 v18 v19 w1.drew := ⟨kd,h.step kd⟩
theorem run_neqV (ρ : Operand → Value) (o : Oper) (x y : Operand) (v0 v1 v2 : Int) (w : World) (ho : o.op = .binOp .neq 23 x y 23) (hx : ρ x = .agg #[I v0,I v1,I v2]) (hy : ρ y = .agg #[I 0,I 0,I 0]) (hz : ¬ (v0 = 0 ∧ v1 = 0 ∧ v2 = 0)) :
  (execOp ρ o).run Tryz.prog w = .ok (.value (.bool true)) w := by
 unfold execOp;rw [ho];simp only [hx,hy];cases c0 : (v0 == 0) <;> cases c1 : (v1 == 0) <;> cases c2 : (v2 == 0)
 all_goals first | (exfalso; simp at c0 c1 c2; exact hz ⟨c0,c1,c2⟩) | (go_simp; done) | (go_simp; rfl)
theorem yg8 {ops : Array Oper} {rest : List Oper} {o : Oper} {a : Act} {Q : Exit → Act → World → Prop} {v0 v1 v2 : Int} (hz : ¬ (v0 = 0 ∧ v1 = 0 ∧ v2 = 0)) (hg : o.guard = none) (x y : Operand) (ho : o.op = .binOp .neq 23 x y 23) (hx : a.eval x = .agg #[I v0,I v1,I v2]) (hy : a.eval y = .agg #[I 0,I 0,I 0])
  (h : wpList Tryz.prog ops Q rest (a.put o.dst (.bool true)) w) : wpList Tryz.prog ops Q (o :: rest) a w := by
 refine wpList_plain hg fun K hK => ?_;unfold Oper.wp;rw [run_neqV _ _ x y v0 v1 v2 w ho hx hy hz,Oper.upon_value];exact hK _ _ h
def doneT (x y z d : Int) : T := if d ≤ 0 then noT else ⟨x,y,z,d,true⟩
theorem y7i (h : d ≤ 0) : doneT x y z d = noT := by unfold doneT; rw [if_pos h]
theorem y42 (h : ¬ d ≤ 0) : doneT x y z d = ⟨x,y,z,d,true⟩ := by unfold doneT; rw [if_neg h]
theorem yby (ka xa ya za p0 p1 p2 kb xb yb zb q0 q1 q2 : Int) (w : World) (h : ka = 1) (h' : kb = 1) : Calls Tryz.prog 59 #[.agg #[I ka,I xa,I ya,I za],.agg #[I p0,I p1,I p2],.agg #[I kb,I xb,I yb,I zb],.agg #[I q0,I q1,I q2]] w fun e w' => e = .returned (.tuple #[.agg #[I ((doneT (unitPart (long (sub q0 p0) (sub q1 p1) (sub q2 p2)) 0 (sub q0 p0)) (unitPart (long (sub q0 p0) (sub q1 p1) (sub q2 p2)) 65536 (sub q1 p1)) (unitPart (long (sub q0 p0) (sub q1 p1) (sub q2 p2)) 0 (sub q2 p2)) (sub (add xa xb) (long (sub q0 p0) (sub q1 p1) (sub q2 p2)))).x),I ((doneT (unitPart (long (sub q0 p0) (sub q1 p1) (sub q2 p2)) 0 (sub q0 p0)) (unitPart (long (sub q0 p0) (sub q1 p1) (sub q2 p2)) 65536 (sub q1 p1)) (unitPart (long (sub q0 p0) (sub q1 p1) (sub q2 p2)) 0 (sub q2 p2)) (sub (add xa xb) (long (sub q0 p0) (sub q1 p1) (sub q2 p2)))).y),I ((doneT (unitPart (long (sub q0 p0) (sub q1 p1) (sub q2 p2)) 0 (sub q0 p0)) (unitPart (long (sub q0 p0) (sub q1 p1) (sub q2 p2)) 65536 (sub q1 p1)) (unitPart (long (sub q0 p0) (sub q1 p1) (sub q2 p2)) 0 (sub q2 p2)) (sub (add xa xb) (long (sub q0 p0) (sub q1 p1) (sub q2 p2)))).z)],I ((doneT (unitPart (long (sub q0 p0) (sub q1 p1) (sub q2 p2)) 0 (sub q0 p0)) (unitPart (long (sub q0 p0) (sub q1 p1) (sub q2 p2)) 65536 (sub q1 p1)) (unitPart (long (sub q0 p0) (sub q1 p1) (sub q2 p2)) 0 (sub q2 p2)) (sub (add xa xb) (long (sub q0 p0) (sub q1 p1) (sub q2 p2)))).d),.bool (doneT (unitPart (long (sub q0 p0) (sub q1 p1) (sub q2 p2)) 0 (sub q0 p0)) (unitPart (long (sub q0 p0) (sub q1 p1) (sub q2 p2)) 65536 (sub q1 p1)) (unitPart (long (sub q0 p0) (sub q1 p1) (sub q2 p2)) 0 (sub q2 p2)) (sub (add xa xb) (long (sub q0 p0) (sub q1 p1) (sub q2 p2)))).ok]) ∧ Kept w w' := by
 have hb : (ka == 1) = true := by simp [h]
 have hb' : (kb == 1) = true := by simp [h']
 clear h h';go_enter Tryz.func59,Tryz.ntmps59
 go_wp2_with fail
 refine (y0u _ _ _ _ _ _ _).mono ?_; rintro e w1 ⟨rfl,k1⟩;have hlt : w.heap.size + 1 + 1 + 1 + 1 + 1 + 1 ≤ w1.heap.size := by have := k1.below.size; simp at this; omega
 go_wp2
 refine wp_region_held_drew (S := (fun w' => Kept w w' ∧ Zc w' w.heap.size 0 ka ∧ Zc w' w.heap.size 1 xa ∧ Zc w' w.heap.size 2 ya ∧ Zc w' w.heap.size 3 za ∧ Zc w' (w.heap.size + 1 + 1) 0 kb ∧ Zc w' (w.heap.size + 1 + 1) 1 xb ∧ Zc w' (w.heap.size + 1 + 1) 2 yb ∧ Zc w' (w.heap.size + 1 + 1) 3 zb ∧ Zc w' w1.heap.size 0 (sub q0 p0) ∧ Zc w' w1.heap.size 1 (sub q1 p1) ∧ Zc w' w1.heap.size 2 (sub q2 p2) ∧ w'.cell? (Y (w.heap.size + 1 + 1 + 1 + 1 + 1) 0) = some (cellV w' (Y (w.heap.size + 1 + 1 + 1 + 1 + 1) 0)) ∧ w'.cell? (Y (w.heap.size + 1 + 1 + 1 + 1 + 1) 1) = some (cellV w' (Y (w.heap.size + 1 + 1 + 1 + 1 + 1) 1)) ∧ w'.cell? (Y (w.heap.size + 1 + 1 + 1 + 1 + 1) 2) = some (cellV w' (Y (w.heap.size + 1 + 1 + 1 + 1 + 1) 2)) ∧ w'.frozen? (Y (w.heap.size + 1 + 1 + 1 + 1 + 1) 0) = false ∧ w'.frozen? (Y (w.heap.size + 1 + 1 + 1 + 1 + 1) 1) = false ∧ w'.frozen? (Y (w.heap.size + 1 + 1 + 1 + 1 + 1) 2) = false ∧ w'.cell? (Y (w.heap.size + 1 + 1 + 1 + 1) 0) = some (cellV w' (Y (w.heap.size + 1 + 1 + 1 + 1) 0)) ∧ w'.cell? (Y (w.heap.size + 1 + 1 + 1 + 1) 1) = some (cellV w' (Y (w.heap.size + 1 + 1 + 1 + 1) 1)) ∧ w'.cell? (Y (w.heap.size + 1 + 1 + 1 + 1) 2) = some (cellV w' (Y (w.heap.size + 1 + 1 + 1 + 1) 2)) ∧ w'.frozen? (Y (w.heap.size + 1 + 1 + 1 + 1) 0) = false ∧ w'.frozen? (Y (w.heap.size + 1 + 1 + 1 + 1) 1) = false ∧ w'.frozen? (Y (w.heap.size + 1 + 1 + 1 + 1) 2) = false)) (by kernel_rfl) ?_ (fun hJ1 => ?_)
 ·exact RT.drew (by refine ⟨((((((((Kept.refl w).alloc _ _).alloc _ _).alloc _ _).alloc _ _).alloc _ _).alloc _ _).trans k1).alloc _ _,later (y00 k1 ?_) _,later (y00 k1 ?_) _,later (y00 k1 ?_) _,later (y00 k1 ?_) _,later (y00 k1 ?_) _,later (y00 k1 ?_) _,later (y00 k1 ?_) _,later (y00 k1 ?_) _,?_,?_,?_,y02 (later (y00 k1 (v := I 0) ?_) _),y02 (later (y00 k1 (v := I 0) ?_) _),y02 (later (y00 k1 (v := I 0) ?_) _),laterF (y01 k1 ?_) _ _,laterF (y01 k1 ?_) _ _,laterF (y01 k1 ?_) _ _,y02 (later (y00 k1 (v := I 0) ?_) _),y02 (later (y00 k1 (v := I 0) ?_) _),y02 (later (y00 k1 (v := I 0) ?_) _),laterF (y01 k1 ?_) _ _,laterF (y01 k1 ?_) _ _,laterF (y01 k1 ?_) _ _⟩ <;> go_simp)
 refine tkU 0 (h:=tkU 2 (h:=tkU 3 (h:=tkV 4 ?_)));try simp only [zP]
 refine tkU 5 (h:=tkU 6 (h:=tkU 7 (h:=tkV 9 ?_)));try simp only [zP]
 refine rdW 1 rfl fun K hK => ?_;simp only [zQ];go_simp
 (go_at_call 86; refine (y3x _ _ _ _).mono ?_; rintro e w2 ⟨rfl,k2⟩)
 try go_wp2_with fail
 refine hK.out _ _ ?_ fun hJ2 => ?_
 ·exact RT.step k2 hJ1
 clear hK K hJ1;try simp only [zP]
 refine rdW 8 rfl fun K hK => ?_;simp only [zQ];go_simp
 (go_at_call 78; refine (y1x _ _ _).mono ?_; rintro e w3 ⟨rfl,rfl⟩)
 try go_wp2_with fail
 refine hK.out _ _ ?_ fun hJ3 => ?_
 ·exact hJ2
 clear hK K hJ2;try simp only [zP]
 refine rdW 10 rfl fun K hK => ?_;simp only [zQ];go_simp
 (go_at_call 85; refine (y24 _ _ _ _).mono ?_; rintro e w4 ⟨rfl,k4⟩)
 try go_wp2_with fail
 refine hK.out _ _ ?_ fun hJ4 => ?_
 ·exact RT.step k4 hJ3
 clear hK K hJ3;try simp only [zP]
 refine rdW 11 rfl fun K hK => ?_;simp only [zQ];go_simp
 (go_at_call 87; refine (y0x _ _ _).mono ?_; rintro e w5 ⟨rfl,rfl⟩)
 try go_wp2_with fail
 refine hK.out _ _ ?_ fun hJ5 => ?_
 ·exact hJ4
 clear hK K hJ4;try simp only [zP]
 refine rdW 12 rfl fun K hK => ?_;simp only [zQ];go_simp;refine hK.out _ _ ?_ fun hJ6 => ?_
 ·exact (RT.put0 2 _ (by omega) (by omega) (by omega) (by omega) (RT.put0 1 _ (by omega) (by omega) (by omega) (by omega) (RT.put0 0 _ (by omega) (by omega) (by omega) (by omega) hJ5)))
 clear hK K;try simp only [zP]
 refine tkV 13 ?_;try simp only [zP]
 refine wpAnyH_done (by kernel_rfl) ?_ _;obtain ⟨_,_,_,_,_,_,_,_,_,_,_,_,c0,c1,c2,_⟩ := hJ5;obtain ⟨m0,m1,m2⟩ := y0b (v0 := I (unitPart (long (sub q0 p0) (sub q1 p1) (sub q2 p2)) 0 (sub q0 p0))) (v1 := I (unitPart (long (sub q0 p0) (sub q1 p1) (sub q2 p2)) 65536 (sub q1 p1))) (v2 := I (unitPart (long (sub q0 p0) (sub q1 p1) (sub q2 p2)) 0 (sub q2 p2))) c0 c1 c2;clear c0 c1 c2;obtain ⟨hkt,_,_,_,_,_,_,_,_,_,_,_,_,_,_,_,_,_,d0,d1,d2,f0,f1,f2⟩ := hJ6;have c0 := d0;have c1 := d1;have c2 := d2;clear d0 d1 d2;generalize (((w5.setCell (Y (w.heap.size + 1 + 1 + 1 + 1 + 1) 0) (I (unitPart (long (sub q0 p0) (sub q1 p1) (sub q2 p2)) 0 (sub q0 p0)))).setCell (Y (w.heap.size + 1 + 1 + 1 + 1 + 1) 1) (I (unitPart (long (sub q0 p0) (sub q1 p1) (sub q2 p2)) 65536 (sub q1 p1)))).setCell (Y (w.heap.size + 1 + 1 + 1 + 1 + 1) 2) (I (unitPart (long (sub q0 p0) (sub q1 p1) (sub q2 p2)) 0 (sub q2 p2)))) = wt at m0 m1 m2 c0 c1 c2 f0 f1 f2 hkt ⊢;clear k1 k2 k4
 cases hd : decide (sub (add xa xb) (long (sub q0 p0) (sub q1 p1) (sub q2 p2)) ≤ 0) with
 | true =>
  go_wp2
  obtain ⟨e0,e1,e2⟩ := y0b (v0 := I 0) (v1 := I 0) (v2 := I 0) c0 c1 c2;exact bodyPost_ret (v := .tuple #[.agg #[I 0,I 0,I 0],I 0,.bool false]) (by simp [results,Tryz.results59,go_sem,e0,e1,e2]) rfl ⟨by rw [y7i (of_decide_eq_true hd)]; rfl,y07 hkt (by omega) _ _ _⟩
 | false =>
  go_wp2
  obtain ⟨e0,e1,e2⟩ := y0b (v0 := I (unitPart (long (sub q0 p0) (sub q1 p1) (sub q2 p2)) 0 (sub q0 p0))) (v1 := I (unitPart (long (sub q0 p0) (sub q1 p1) (sub q2 p2)) 65536 (sub q1 p1))) (v2 := I (unitPart (long (sub q0 p0) (sub q1 p1) (sub q2 p2)) 0 (sub q2 p2))) c0 c1 c2;exact bodyPost_ret (v := .tuple #[.agg #[I (unitPart (long (sub q0 p0) (sub q1 p1) (sub q2 p2)) 0 (sub q0 p0)),I (unitPart (long (sub q0 p0) (sub q1 p1) (sub q2 p2)) 65536 (sub q1 p1)),I (unitPart (long (sub q0 p0) (sub q1 p1) (sub q2 p2)) 0 (sub q2 p2))],I (sub (add xa xb) (long (sub q0 p0) (sub q1 p1) (sub q2 p2))),.bool true]) (by simp [results,Tryz.results59,go_sem,e0,e1,e2]) rfl ⟨by rw [y42 (of_decide_eq_false hd)],y07 hkt (by omega) _ _ _⟩
def refBallT (s p0 p1 p2 b0 b1 b2 b3 b4 b5 : Int) : T := ballV s (gap p0 b0 b3) (gap p1 b1 b4) (gap p2 b2 b5) (doneT (outE p0 p1 p2 p0 p1 p2 b0 b1 b2 b3 b4 b5).x (outE p0 p1 p2 p0 p1 p2 b0 b1 b2 b3 b4 b5).y (outE p0 p1 p2 p0 p1 p2 b0 b1 b2 b3 b4 b5).z (add (outE p0 p1 p2 p0 p1 p2 b0 b1 b2 b3 b4 b5).d s))
theorem y8p (s x y z : Int) : reachT s x y z = doneT (unitPart (long x y z) 0 x) (unitPart (long x y z) 65536 y) (unitPart (long x y z) 0 z) (sub s (long x y z)) := rfl
theorem y66 (ka xa ya za p0 p1 p2 kb xb yb zb q0 q1 q2 : Int) (w : World) (h : ka = 1) (h' : ¬ kb = 1) : Calls Tryz.prog 59 #[.agg #[I ka,I xa,I ya,I za],.agg #[I p0,I p1,I p2],.agg #[I kb,I xb,I yb,I zb],.agg #[I q0,I q1,I q2]] w fun e w' => e = .returned (.tuple #[.agg #[I ((refBallT xa p0 p1 p2 (sub q0 xb) (sub q1 (hf kb xb yb)) (sub q2 (hf kb xb zb)) (add q0 xb) (add q1 (hf kb xb yb)) (add q2 (hf kb xb zb))).x),I ((refBallT xa p0 p1 p2 (sub q0 xb) (sub q1 (hf kb xb yb)) (sub q2 (hf kb xb zb)) (add q0 xb) (add q1 (hf kb xb yb)) (add q2 (hf kb xb zb))).y),I ((refBallT xa p0 p1 p2 (sub q0 xb) (sub q1 (hf kb xb yb)) (sub q2 (hf kb xb zb)) (add q0 xb) (add q1 (hf kb xb yb)) (add q2 (hf kb xb zb))).z)],I ((refBallT xa p0 p1 p2 (sub q0 xb) (sub q1 (hf kb xb yb)) (sub q2 (hf kb xb zb)) (add q0 xb) (add q1 (hf kb xb yb)) (add q2 (hf kb xb zb))).d),.bool (refBallT xa p0 p1 p2 (sub q0 xb) (sub q1 (hf kb xb yb)) (sub q2 (hf kb xb zb)) (add q0 xb) (add q1 (hf kb xb yb)) (add q2 (hf kb xb zb))).ok]) ∧ Kept w w' := by
 have hb : (ka == 1) = true := by simp [h]
 have hb' : (kb == 1) = false := by simp [h']
 clear h h';go_enter Tryz.func59,Tryz.ntmps59
 go_wp2_with fail
 refine (y0p _ _ _ _ _ _ _ _).mono ?_; rintro e w1 ⟨rfl,k1⟩;have hlt : w.heap.size + 1 + 1 + 1 + 1 + 1 + 1 ≤ w1.heap.size := by have := k1.below.size; simp at this; omega
 go_wp2
 have HA : ShA6At (w.heap.size) (w.heap.size + 1) (w.heap.size + 1 + 1) (w.heap.size + 1 + 1 + 1) w1.heap.size (I ka) (I xa) (I ya) (I za) (I p0) (I p1) (I p2) (I kb) (I xb) (I yb) (I zb) (I q0) (I q1) (I q2) (I (sub q0 xb)) (I (sub q1 (hf kb xb yb))) (I (sub q2 (hf kb xb zb))) (I (add q0 xb)) (I (add q1 (hf kb xb yb))) (I (add q2 (hf kb xb zb))) (w1.alloc (.cells #[I (sub q0 xb),I (sub q1 (hf kb xb yb)),I (sub q2 (hf kb xb zb)),I (add q0 xb),I (add q1 (hf kb xb yb)),I (add q2 (hf kb xb zb))] 60)) := by
  refine ⟨later (y00 k1 ?_) _,later (y00 k1 ?_) _,later (y00 k1 ?_) _,later (y00 k1 ?_) _,later (y00 k1 ?_) _,later (y00 k1 ?_) _,later (y00 k1 ?_) _,later (y00 k1 ?_) _,later (y00 k1 ?_) _,later (y00 k1 ?_) _,later (y00 k1 ?_) _,later (y00 k1 ?_) _,later (y00 k1 ?_) _,later (y00 k1 ?_) _,?_,?_,?_,?_,?_,?_⟩ <;> go_simp
 have hkA : Kept w (w1.alloc (.cells #[I (sub q0 xb),I (sub q1 (hf kb xb yb)),I (sub q2 (hf kb xb zb)),I (add q0 xb),I (add q1 (hf kb xb yb)),I (add q2 (hf kb xb zb))] 60)) := ((((((((Kept.refl w).alloc _ _).alloc _ _).alloc _ _).alloc _ _).alloc _ _).alloc _ _).trans k1).alloc _ _
 have WC : Aside (∀ i,i < 3 → (w1.alloc (.cells #[I (sub q0 xb),I (sub q1 (hf kb xb yb)),I (sub q2 (hf kb xb zb)),I (add q0 xb),I (add q1 (hf kb xb yb)),I (add q2 (hf kb xb zb))] 60)).cell? (Y (w.heap.size + 1 + 1 + 1 + 1 + 1) i) = some (I 0)) := by
  intro i hi;obtain rfl | rfl | rfl : i = 0 ∨ i = 1 ∨ i = 2 := by omega
  all_goals exact later (y00 k1 (by go_simp)) _
 have WF : Aside (∀ i,(w1.alloc (.cells #[I (sub q0 xb),I (sub q1 (hf kb xb yb)),I (sub q2 (hf kb xb zb)),I (add q0 xb),I (add q1 (hf kb xb yb)),I (add q2 (hf kb xb zb))] 60)).frozen? (Y (w.heap.size + 1 + 1 + 1 + 1 + 1) i) = false) := fun i => laterF (y01 k1 (by go_simp)) _ _
 have RC : Aside (∀ i,i < 3 → (w1.alloc (.cells #[I (sub q0 xb),I (sub q1 (hf kb xb yb)),I (sub q2 (hf kb xb zb)),I (add q0 xb),I (add q1 (hf kb xb yb)),I (add q2 (hf kb xb zb))] 60)).cell? (Y (w.heap.size + 1 + 1 + 1 + 1) i) = some (I 0)) := by
  intro i hi;obtain rfl | rfl | rfl : i = 0 ∨ i = 1 ∨ i = 2 := by omega
  all_goals exact later (y00 k1 (by go_simp)) _
 have RF : Aside (∀ i,(w1.alloc (.cells #[I (sub q0 xb),I (sub q1 (hf kb xb yb)),I (sub q2 (hf kb xb zb)),I (add q0 xb),I (add q1 (hf kb xb yb)),I (add q2 (hf kb xb zb))] 60)).frozen? (Y (w.heap.size + 1 + 1 + 1 + 1) i) = false) := fun i => laterF (y01 k1 (by go_simp)) _ _;have hw1 : w1.heap.size < (w1.alloc (.cells #[I (sub q0 xb),I (sub q1 (hf kb xb yb)),I (sub q2 (hf kb xb zb)),I (add q0 xb),I (add q1 (hf kb xb yb)),I (add q2 (hf kb xb zb))] 60)).heap.size := by simp
 generalize (w1.alloc (.cells #[I (sub q0 xb),I (sub q1 (hf kb xb yb)),I (sub q2 (hf kb xb zb)),I (add q0 xb),I (add q1 (hf kb xb yb)),I (add q2 (hf kb xb zb))] 60)) = wA at HA hkA WC WF RC RF hw1 ⊢;clear k1;go_cut [15] from 36 (fun s15 wc => ∃ p,s15 = .pointer (some (Y p 0)) ∧ wA.heap.size ≤ p ∧ Kept wA wc ∧ wc.cell? (Y p 0) = some (I (gap p0 (sub q0 xb) (add q0 xb))) ∧ wc.cell? (Y p 1) = some (I (gap p1 (sub q1 (hf kb xb yb)) (add q1 (hf kb xb yb)))) ∧ wc.cell? (Y p 2) = some (I (gap p2 (sub q2 (hf kb xb zb)) (add q2 (hf kb xb zb)))))
 case first =>
  refine wp_region_held_drew (S := (fun w' => Kept wA w' ∧ Zc w' w.heap.size 0 ka ∧ Zc w' w.heap.size 1 xa ∧ Zc w' w.heap.size 2 ya ∧ Zc w' w.heap.size 3 za ∧ Zc w' (w.heap.size + 1) 0 p0 ∧ Zc w' (w.heap.size + 1) 1 p1 ∧ Zc w' (w.heap.size + 1) 2 p2 ∧ Zc w' (w.heap.size + 1 + 1) 0 kb ∧ Zc w' (w.heap.size + 1 + 1) 1 xb ∧ Zc w' (w.heap.size + 1 + 1) 2 yb ∧ Zc w' (w.heap.size + 1 + 1) 3 zb ∧ Zc w' (w.heap.size + 1 + 1 + 1) 0 q0 ∧ Zc w' (w.heap.size + 1 + 1 + 1) 1 q1 ∧ Zc w' (w.heap.size + 1 + 1 + 1) 2 q2 ∧ Zc w' w1.heap.size 0 (sub q0 xb) ∧ Zc w' w1.heap.size 1 (sub q1 (hf kb xb yb)) ∧ Zc w' w1.heap.size 2 (sub q2 (hf kb xb zb)) ∧ Zc w' w1.heap.size 3 (add q0 xb) ∧ Zc w' w1.heap.size 4 (add q1 (hf kb xb yb)) ∧ Zc w' w1.heap.size 5 (add q2 (hf kb xb zb)))) (by kernel_rfl) ?_ (fun hH0 => ?_)
  ·exact ⟨kd,HA.step kd⟩
  refine tkU 0 (h:=tkU 1 (h:=tkV 3 ?_));try simp only [zP]
  refine y22 [⟨2,69,.agg #[I (near p0 (sub q0 xb) (add q0 xb)),I (near p1 (sub q1 (hf kb xb yb)) (add q1 (hf kb xb yb))),I (near p2 (sub q2 (hf kb xb zb)) (add q2 (hf kb xb zb)))]⟩,⟨4,71,.agg #[I (gap p0 (sub q0 xb) (add q0 xb)),I (gap p1 (sub q1 (hf kb xb yb)) (add q1 (hf kb xb yb))),I (gap p2 (sub q2 (hf kb xb zb)) (add q2 (hf kb xb zb)))]⟩] [(5,15)] #[I 0,I 0,I 0] 23 1 (by kernel_rfl) (by decide) (by simp) ?_ ?_ (fun w' kw _ => ⟨(((Kept.refl wA).drew.trans kw).alloc _ _),HA.step (((Kept.refl wA).drew.trans kw).alloc _ _)⟩) (⟨(Kept.refl wA).drew,HA.step (Kept.refl wA).drew⟩) ?_
  ·intro done cc rest hd xs w' K kw hs hK
   rcases calls2 hd with ⟨rfl,rfl⟩ | ⟨rfl,rfl⟩
   ·simp only [putX,putCs,List.foldl_cons,List.foldl_nil,zT] at hK ⊢
    unfold wpOp;simp only [zR];first | (with_reducible refine iteYes ?hcx ?htx; case hcx => kernel_rfl) | rw [if_pos (by rfl)]
    left;go_simp
    (go_at_call 99; refine (yc3 _ _ _ _ _ _ _ _ _ _).mono ?_; rintro e w2 ⟨rfl,k2⟩)
    try go_wp2_with fail
    exact hK _ k2 (⟨((Kept.refl wA).drew.trans (kw.trans k2)),HA.step ((Kept.refl wA).drew.trans (kw.trans k2))⟩)
   ·simp only [putX,putCs,List.foldl_cons,List.foldl_nil,zT] at hK ⊢
    unfold wpOp;simp only [zR];first | (with_reducible refine iteYes ?hcx ?htx; case hcx => kernel_rfl) | rw [if_pos (by rfl)]
    left;go_simp
    (go_at_call 55; refine (y0u _ _ _ _ _ _ _).mono ?_; rintro e w2 ⟨rfl,k2⟩)
    try go_wp2_with fail
    exact hK _ k2 (⟨((Kept.refl wA).drew.trans (kw.trans k2)),HA.step ((Kept.refl wA).drew.trans (kw.trans k2))⟩)
  ·intro p hp a' w' K hK
   simp only [zrd,List.not_mem_nil,or_false] at hp;subst hp
   all_goals
    unfold wpOp;simp only [zR];first | (with_reducible refine iteYes ?hcx ?htx; case hcx => kernel_rfl) | rw [if_pos (by rfl)]
    left;go_simp
    exact hK
  ·intro f wz0 hf hinj kz hs
   have hP := hf (5,15) (by simp);simp only at hP;simp only [setN,putX,putCs,ptrV,List.map_cons,List.map_nil,List.cons_append,List.nil_append,List.foldl_cons,List.foldl_nil,zT];clear hf hinj;generalize f 15 = pp at hP ⊢;have KZ : Hid (Kept wA wz0) := (Kept.refl wA).drew.trans kz;clear kz hs;have Hpp : Hid (wA.heap.size ≤ pp ∧ wz0.heap[pp]? = some (.cells #[I 0,I 0,I 0] 23)) := hP;clear hP;have z0 := y08 Hpp.out.2 0; have y0 := y0h Hpp.out.2 0; have z1 := y08 Hpp.out.2 1; have y1 := y0h Hpp.out.2 1; have z2 := y08 Hpp.out.2 2; have y2 := y0h Hpp.out.2 2;simp only [zR] at z0 z1 z2;refine rdW 6 rfl fun K hK => ?_;simp only [zQ];go_simp;refine hK.out _ _ ?_ fun hS0 => ?_
   ·exact ⟨(((KZ.out.setCell (p := Y pp 0) Hpp.out.1 _).setCell (p := Y pp 1) Hpp.out.1 _).setCell (p := Y pp 2) Hpp.out.1 _),HA.step (((KZ.out.setCell (p := Y pp 0) Hpp.out.1 _).setCell (p := Y pp 1) Hpp.out.1 _).setCell (p := Y pp 2) Hpp.out.1 _)⟩
   clear hK K hS0 z0 y0 z1 y1 z2 y2;try simp only [zP]
   have KY : Hid (Kept wA (((wz0.setCell (Y pp 0) (I (gap p0 (sub q0 xb) (add q0 xb)))).setCell (Y pp 1) (I (gap p1 (sub q1 (hf kb xb yb)) (add q1 (hf kb xb yb))))).setCell (Y pp 2) (I (gap p2 (sub q2 (hf kb xb zb)) (add q2 (hf kb xb zb)))))) := (((KZ.out.setCell (p := Y pp 0) Hpp.out.1 _).setCell (p := Y pp 1) Hpp.out.1 _).setCell (p := Y pp 2) Hpp.out.1 _);have Gpp : Hid (wA.heap.size ≤ pp ∧ (((wz0.setCell (Y pp 0) (I (gap p0 (sub q0 xb) (add q0 xb)))).setCell (Y pp 1) (I (gap p1 (sub q1 (hf kb xb yb)) (add q1 (hf kb xb yb))))).setCell (Y pp 2) (I (gap p2 (sub q2 (hf kb xb zb)) (add q2 (hf kb xb zb))))).heap[pp]? = some (.cells #[I (gap p0 (sub q0 xb) (add q0 xb)),I (gap p1 (sub q1 (hf kb xb yb)) (add q1 (hf kb xb yb))),I (gap p2 (sub q2 (hf kb xb zb)) (add q2 (hf kb xb zb)))] 23)) := ⟨Hpp.out.1,(y0d (y0d (y0d Hpp.out.2 _ _) _ _) _ _)⟩;clear KZ Hpp;generalize (((wz0.setCell (Y pp 0) (I (gap p0 (sub q0 xb) (add q0 xb)))).setCell (Y pp 1) (I (gap p1 (sub q1 (hf kb xb yb)) (add q1 (hf kb xb yb))))).setCell (Y pp 2) (I (gap p2 (sub q2 (hf kb xb zb)) (add q2 (hf kb xb zb))))) = wz1 at KY Gpp ⊢;have KZ := KY;have Hpp := Gpp;clear KY Gpp;refine wpAnyH_done (by kernel_rfl) ?_ _;go_wp2_with fail
   go_meet
   case rel => exact ⟨pp,rfl,Hpp.out.1,KZ.out,y08 Hpp.out.2 0,y08 Hpp.out.2 1,y08 Hpp.out.2 2⟩
 case rest =>
  obtain ⟨pv,rfl,hpv,kc,x0,x1,x2⟩ := hcut;obtain ⟨t0,t1,t2,t3,t4,t5,t6,t7,t8,t9,t10,t11,t12,t13,t14,t15,t16,t17,t18,t19⟩ := HA.step kc;clear HA;obtain ⟨tt,HT⟩ : ∃ tt,(refBallT xa p0 p1 p2 (sub q0 xb) (sub q1 (hf kb xb yb)) (sub q2 (hf kb xb zb)) (add q0 xb) (add q1 (hf kb xb yb)) (add q2 (hf kb xb zb))) = tt := ⟨_,rfl⟩;have HTT : Aside ((refBallT xa p0 p1 p2 (sub q0 xb) (sub q1 (hf kb xb yb)) (sub q2 (hf kb xb zb)) (add q0 xb) (add q1 (hf kb xb yb)) (add q2 (hf kb xb zb))) = tt) := HT;unfold refBallT at HT;generalize gap p0 (sub q0 xb) (add q0 xb) = v0 at x0 HT;generalize gap p1 (sub q1 (hf kb xb yb)) (add q1 (hf kb xb yb)) = v1 at x1 HT;generalize gap p2 (sub q2 (hf kb xb zb)) (add q2 (hf kb xb zb)) = v2 at x2 HT;by_cases hz : ¬ (v0 = 0 ∧ v1 = 0 ∧ v2 = 0)
  ·have HZZ : Hid (¬ (v0 = 0 ∧ v1 = 0 ∧ v2 = 0)) := hz
   clear hz;rw [y5v HZZ.out,y8p] at HT;have HT0 : Aside (doneT (unitPart (long v0 v1 v2) 0 v0) (unitPart (long v0 v1 v2) 65536 v1) (unitPart (long v0 v1 v2) 0 v2) (sub xa (long v0 v1 v2)) = tt) := HT;clear HT;go_wp2_with (refine yg8 HZZ.out rfl (.tmp 72) (.tmp 73) rfl rfl rfl ?_)
   refine wp_region_held_drew (S := (fun w' => Kept w w' ∧ Zc w' w.heap.size 0 ka ∧ Zc w' w.heap.size 1 xa ∧ Zc w' w.heap.size 2 ya ∧ Zc w' w.heap.size 3 za ∧ Zc w' pv 0 v0 ∧ Zc w' pv 1 v1 ∧ Zc w' pv 2 v2 ∧ w'.cell? (Y (w.heap.size + 1 + 1 + 1 + 1 + 1) 0) = some (cellV w' (Y (w.heap.size + 1 + 1 + 1 + 1 + 1) 0)) ∧ w'.cell? (Y (w.heap.size + 1 + 1 + 1 + 1 + 1) 1) = some (cellV w' (Y (w.heap.size + 1 + 1 + 1 + 1 + 1) 1)) ∧ w'.cell? (Y (w.heap.size + 1 + 1 + 1 + 1 + 1) 2) = some (cellV w' (Y (w.heap.size + 1 + 1 + 1 + 1 + 1) 2)) ∧ w'.frozen? (Y (w.heap.size + 1 + 1 + 1 + 1 + 1) 0) = false ∧ w'.frozen? (Y (w.heap.size + 1 + 1 + 1 + 1 + 1) 1) = false ∧ w'.frozen? (Y (w.heap.size + 1 + 1 + 1 + 1 + 1) 2) = false ∧ w'.cell? (Y (w.heap.size + 1 + 1 + 1 + 1) 0) = some (cellV w' (Y (w.heap.size + 1 + 1 + 1 + 1) 0)) ∧ w'.cell? (Y (w.heap.size + 1 + 1 + 1 + 1) 1) = some (cellV w' (Y (w.heap.size + 1 + 1 + 1 + 1) 1)) ∧ w'.cell? (Y (w.heap.size + 1 + 1 + 1 + 1) 2) = some (cellV w' (Y (w.heap.size + 1 + 1 + 1 + 1) 2)) ∧ w'.frozen? (Y (w.heap.size + 1 + 1 + 1 + 1) 0) = false ∧ w'.frozen? (Y (w.heap.size + 1 + 1 + 1 + 1) 1) = false ∧ w'.frozen? (Y (w.heap.size + 1 + 1 + 1 + 1) 2) = false)) (by kernel_rfl) ?_ (fun hJ1 => ?_)
   ·exact RU.drew ⟨hkA.trans kc,t0,t1,t2,t3,x0,x1,x2,y02 (y00 kc (WC.out 0 (by omega))),y02 (y00 kc (WC.out 1 (by omega))),y02 (y00 kc (WC.out 2 (by omega))),y01 kc (WF.out 0),y01 kc (WF.out 1),y01 kc (WF.out 2),y02 (y00 kc (RC.out 0 (by omega))),y02 (y00 kc (RC.out 1 (by omega))),y02 (y00 kc (RC.out 2 (by omega))),y01 kc (RF.out 0),y01 kc (RF.out 1),y01 kc (RF.out 2)⟩
   refine tkU 0 (h:=tkU 2 (h:=tkU 3 (h:=tkV 4 ?_)));try simp only [zP]
   refine tkV 5 ?_;try simp only [zP]
   refine rdW 1 rfl fun K hK => ?_;simp only [zQ];go_simp
   (go_at_call 86; refine (y3x _ _ _ _).mono ?_; rintro e w2 ⟨rfl,k2⟩)
   try go_wp2_with fail
   refine hK.out _ _ ?_ fun hJ2 => ?_
   ·exact RU.step k2 hJ1
   clear hK K hJ1;try simp only [zP]
   refine rdW 6 rfl fun K hK => ?_;simp only [zQ];go_simp
   (go_at_call 85; refine (y24 _ _ _ _).mono ?_; rintro e w3 ⟨rfl,k3⟩)
   try go_wp2_with fail
   refine hK.out _ _ ?_ fun hJ3 => ?_
   ·exact RU.step k3 hJ2
   clear hK K hJ2;try simp only [zP]
   refine rdW 7 rfl fun K hK => ?_;simp only [zQ];go_simp
   (go_at_call 87; refine (y0x _ _ _).mono ?_; rintro e w4 ⟨rfl,rfl⟩)
   try go_wp2_with fail
   refine hK.out _ _ ?_ fun hJ4 => ?_
   ·exact hJ3
   clear hK K hJ3;try simp only [zP]
   refine rdW 8 rfl fun K hK => ?_;simp only [zQ];go_simp;refine hK.out _ _ ?_ fun hJ5 => ?_
   ·exact (RU.put0 2 _ (by omega) (by omega) (by omega) (RU.put0 1 _ (by omega) (by omega) (by omega) (RU.put0 0 _ (by omega) (by omega) (by omega) hJ4)))
   clear hK K;try simp only [zP]
   refine tkV 9 ?_;try simp only [zP]
   refine wpAnyH_done (by kernel_rfl) ?_ _;obtain ⟨_,_,_,_,_,_,_,_,c0,c1,c2,_⟩ := hJ4;obtain ⟨m0,m1,m2⟩ := y0b (v0 := I (unitPart (long v0 v1 v2) 0 v0)) (v1 := I (unitPart (long v0 v1 v2) 65536 v1)) (v2 := I (unitPart (long v0 v1 v2) 0 v2)) c0 c1 c2;clear c0 c1 c2;obtain ⟨hkt,_,_,_,_,_,_,_,_,_,_,_,_,_,d0,d1,d2,f0,f1,f2⟩ := hJ5;have c0 := d0;have c1 := d1;have c2 := d2;clear d0 d1 d2;generalize (((w4.setCell (Y (w.heap.size + 1 + 1 + 1 + 1 + 1) 0) (I (unitPart (long v0 v1 v2) 0 v0))).setCell (Y (w.heap.size + 1 + 1 + 1 + 1 + 1) 1) (I (unitPart (long v0 v1 v2) 65536 v1))).setCell (Y (w.heap.size + 1 + 1 + 1 + 1 + 1) 2) (I (unitPart (long v0 v1 v2) 0 v2))) = wt at m0 m1 m2 c0 c1 c2 f0 f1 f2 hkt ⊢;clear k2 k3 x0 x1 x2 t0 t1 t2 t3 t4 t5 t6 t7 t8 t9 t10 t11 t12 t13 t14 t15 t16 t17 t18 t19
   cases hd : decide (sub xa (long v0 v1 v2) ≤ 0) with
   | true =>
    go_wp2
    obtain ⟨e0,e1,e2⟩ := y0b (v0 := I 0) (v1 := I 0) (v2 := I 0) c0 c1 c2;exact bodyPost_ret (v := .tuple #[.agg #[I 0,I 0,I 0],I 0,.bool false]) (by simp [results,Tryz.results59,go_sem,e0,e1,e2]) rfl ⟨by rw [HTT.out,← HT0.out,y7i (of_decide_eq_true hd)]; rfl,y07 hkt (by omega) _ _ _⟩
   | false =>
    go_wp2
    obtain ⟨e0,e1,e2⟩ := y0b (v0 := I (unitPart (long v0 v1 v2) 0 v0)) (v1 := I (unitPart (long v0 v1 v2) 65536 v1)) (v2 := I (unitPart (long v0 v1 v2) 0 v2)) c0 c1 c2;exact bodyPost_ret (v := .tuple #[.agg #[I (unitPart (long v0 v1 v2) 0 v0),I (unitPart (long v0 v1 v2) 65536 v1),I (unitPart (long v0 v1 v2) 0 v2)],I (sub xa (long v0 v1 v2)),.bool true]) (by simp [results,Tryz.results59,go_sem,e0,e1,e2]) rfl ⟨by rw [HTT.out,← HT0.out,y42 (of_decide_eq_false hd)],y07 hkt (by omega) _ _ _⟩
  ·have hz2 := Decidable.not_not.1 hz
   have c_0 : (v0 == 0) = true := by simp [hz2.1]
   have c_1 : (v1 == 0) = true := by simp [hz2.2.1]
   have c_2 : (v2 == 0) = true := by simp [hz2.2.2]
   clear hz hz2;rw [ygw ⟨by simpa using c_0,by simpa using c_1,by simpa using c_2⟩] at HT;have HT0 : Aside (doneT (outE p0 p1 p2 p0 p1 p2 (sub q0 xb) (sub q1 (hf kb xb yb)) (sub q2 (hf kb xb zb)) (add q0 xb) (add q1 (hf kb xb yb)) (add q2 (hf kb xb zb))).x (outE p0 p1 p2 p0 p1 p2 (sub q0 xb) (sub q1 (hf kb xb yb)) (sub q2 (hf kb xb zb)) (add q0 xb) (add q1 (hf kb xb yb)) (add q2 (hf kb xb zb))).y (outE p0 p1 p2 p0 p1 p2 (sub q0 xb) (sub q1 (hf kb xb yb)) (sub q2 (hf kb xb zb)) (add q0 xb) (add q1 (hf kb xb yb)) (add q2 (hf kb xb zb))).z (add (outE p0 p1 p2 p0 p1 p2 (sub q0 xb) (sub q1 (hf kb xb yb)) (sub q2 (hf kb xb zb)) (add q0 xb) (add q1 (hf kb xb yb)) (add q2 (hf kb xb zb))).d xa) = tt) := HT;clear HT;go_wp2_with fail
   refine (y77 _ _ _ _ _ _ _ _ _ _ _ _ _).mono ?_; rintro e w2 ⟨rfl,k2⟩;generalize (outE p0 p1 p2 p0 p1 p2 (sub q0 xb) (sub q1 (hf kb xb yb)) (sub q2 (hf kb xb zb)) (add q0 xb) (add q1 (hf kb xb yb)) (add q2 (hf kb xb zb))) = E at HT0 ⊢;have y0 := y00 k2 (y00 kc (WC.out 0 (by omega)));have y1 := y00 k2 (y00 kc (WC.out 1 (by omega)));have y2 := y00 k2 (y00 kc (WC.out 2 (by omega)));have g0 := y01 k2 (y01 kc (WF.out 0));have g1 := y01 k2 (y01 kc (WF.out 1));have g2 := y01 k2 (y01 kc (WF.out 2));have ta : ∀ u0 u1 u2 : Value,(((w2.setCell (Y (w.heap.size + 1 + 1 + 1 + 1 + 1) 0) u0).setCell (Y (w.heap.size + 1 + 1 + 1 + 1 + 1) 1) u1).setCell (Y (w.heap.size + 1 + 1 + 1 + 1 + 1) 2) u2).cell? (Y w.heap.size 1) = some (I xa) := fun _ _ _ => (zra _ _ _ _ (fun e => by injection e with e; omega)).trans ((zra _ _ _ _ (fun e => by injection e with e; omega)).trans ((zra _ _ _ _ (fun e => by injection e with e; omega)).trans (y00 k2 t1)));obtain ⟨m0,m1,m2⟩ := y0b (v0 := I E.x) (v1 := I E.y) (v2 := I E.z) y0 y1 y2;have c0 : (((w2.setCell (Y (w.heap.size + 1 + 1 + 1 + 1 + 1) 0) (I E.x)).setCell (Y (w.heap.size + 1 + 1 + 1 + 1 + 1) 1) (I E.y)).setCell (Y (w.heap.size + 1 + 1 + 1 + 1 + 1) 2) (I E.z)).cell? (Y (w.heap.size + 1 + 1 + 1 + 1) 0) = some (I 0) := (zra _ _ _ _ (fun e => by injection e with e; omega)).trans ((zra _ _ _ _ (fun e => by injection e with e; omega)).trans ((zra _ _ _ _ (fun e => by injection e with e; omega)).trans (y00 k2 (y00 kc (RC.out 0 (by omega))))));have c1 : (((w2.setCell (Y (w.heap.size + 1 + 1 + 1 + 1 + 1) 0) (I E.x)).setCell (Y (w.heap.size + 1 + 1 + 1 + 1 + 1) 1) (I E.y)).setCell (Y (w.heap.size + 1 + 1 + 1 + 1 + 1) 2) (I E.z)).cell? (Y (w.heap.size + 1 + 1 + 1 + 1) 1) = some (I 0) := (zra _ _ _ _ (fun e => by injection e with e; omega)).trans ((zra _ _ _ _ (fun e => by injection e with e; omega)).trans ((zra _ _ _ _ (fun e => by injection e with e; omega)).trans (y00 k2 (y00 kc (RC.out 1 (by omega))))));have c2 : (((w2.setCell (Y (w.heap.size + 1 + 1 + 1 + 1 + 1) 0) (I E.x)).setCell (Y (w.heap.size + 1 + 1 + 1 + 1 + 1) 1) (I E.y)).setCell (Y (w.heap.size + 1 + 1 + 1 + 1 + 1) 2) (I E.z)).cell? (Y (w.heap.size + 1 + 1 + 1 + 1) 2) = some (I 0) := (zra _ _ _ _ (fun e => by injection e with e; omega)).trans ((zra _ _ _ _ (fun e => by injection e with e; omega)).trans ((zra _ _ _ _ (fun e => by injection e with e; omega)).trans (y00 k2 (y00 kc (RC.out 2 (by omega))))));have f0 : (((w2.setCell (Y (w.heap.size + 1 + 1 + 1 + 1 + 1) 0) (I E.x)).setCell (Y (w.heap.size + 1 + 1 + 1 + 1 + 1) 1) (I E.y)).setCell (Y (w.heap.size + 1 + 1 + 1 + 1 + 1) 2) (I E.z)).frozen? (Y (w.heap.size + 1 + 1 + 1 + 1) 0) = false := (zrb _ _ _ _).trans ((zrb _ _ _ _).trans ((zrb _ _ _ _).trans (y01 k2 (y01 kc (RF.out 0)))))
   have f1 : (((w2.setCell (Y (w.heap.size + 1 + 1 + 1 + 1 + 1) 0) (I E.x)).setCell (Y (w.heap.size + 1 + 1 + 1 + 1 + 1) 1) (I E.y)).setCell (Y (w.heap.size + 1 + 1 + 1 + 1 + 1) 2) (I E.z)).frozen? (Y (w.heap.size + 1 + 1 + 1 + 1) 1) = false := (zrb _ _ _ _).trans ((zrb _ _ _ _).trans ((zrb _ _ _ _).trans (y01 k2 (y01 kc (RF.out 1)))));have f2 : (((w2.setCell (Y (w.heap.size + 1 + 1 + 1 + 1 + 1) 0) (I E.x)).setCell (Y (w.heap.size + 1 + 1 + 1 + 1 + 1) 1) (I E.y)).setCell (Y (w.heap.size + 1 + 1 + 1 + 1 + 1) 2) (I E.z)).frozen? (Y (w.heap.size + 1 + 1 + 1 + 1) 2) = false := (zrb _ _ _ _).trans ((zrb _ _ _ _).trans ((zrb _ _ _ _).trans (y01 k2 (y01 kc (RF.out 2)))));have hkt : Kept w (((w2.setCell (Y (w.heap.size + 1 + 1 + 1 + 1 + 1) 0) (I E.x)).setCell (Y (w.heap.size + 1 + 1 + 1 + 1 + 1) 1) (I E.y)).setCell (Y (w.heap.size + 1 + 1 + 1 + 1 + 1) 2) (I E.z)) := y07 ((hkA.trans kc).trans k2) (by omega) _ _ _;go_wp2_with fail
   refine (y1x _ _ _).mono ?_; rintro e w3 ⟨rfl,hw3⟩;rw [hw3];clear hw3 w3;clear ta y0 y1 y2 g0 g1 g2 k2 x0 x1 x2 t0 t1 t2 t3 t4 t5 t6 t7 t8 t9 t10 t11 t12 t13 t14 t15 t16 t17 t18 t19;generalize (((w2.setCell (Y (w.heap.size + 1 + 1 + 1 + 1 + 1) 0) (I E.x)).setCell (Y (w.heap.size + 1 + 1 + 1 + 1 + 1) 1) (I E.y)).setCell (Y (w.heap.size + 1 + 1 + 1 + 1 + 1) 2) (I E.z)) = wt at m0 m1 m2 c0 c1 c2 f0 f1 f2 hkt ⊢
   cases hd : decide (add E.d xa ≤ 0) with
   | true =>
    go_wp2
    obtain ⟨e0,e1,e2⟩ := y0b (v0 := I 0) (v1 := I 0) (v2 := I 0) c0 c1 c2;exact bodyPost_ret (v := .tuple #[.agg #[I 0,I 0,I 0],I 0,.bool false]) (by simp [results,Tryz.results59,go_sem,e0,e1,e2]) rfl ⟨by rw [HTT.out,← HT0.out,y7i (of_decide_eq_true hd)]; rfl,y07 hkt (by omega) _ _ _⟩
   | false =>
    go_wp2
    obtain ⟨e0,e1,e2⟩ := y0b (v0 := I E.x) (v1 := I E.y) (v2 := I E.z) c0 c1 c2;exact bodyPost_ret (v := .tuple #[.agg #[I E.x,I E.y,I E.z],I (add E.d xa),.bool true]) (by simp [results,Tryz.results59,go_sem,e0,e1,e2]) rfl ⟨by rw [HTT.out,← HT0.out,y42 (of_decide_eq_false hd)],y07 hkt (by omega) _ _ _⟩
def negT (t : T) : T := ⟨-t.x,-t.y,-t.z,t.d,t.ok⟩
theorem yki (h : (-70368744177664 ≤ x ∧ x ≤ 70368744177664) ∧ (-70368744177664 ≤ y ∧ y ≤ 70368744177664) ∧ -70368744177664 ≤ z ∧ z ≤ 70368744177664) : Low (doneT x y z d) := by
 unfold doneT; split
 ·exact yen
 ·exact h
theorem yd0 (s p0 p1 p2 b0 b1 b2 b3 b4 b5 : Int) : Low (refBallT s p0 p1 p2 b0 b1 b2 b3 b4 b5) := by
 unfold refBallT ballV; split
 ·have h := y6i p0 p1 p2 p0 p1 p2 b0 b1 b2 b3 b4 b5
  unfold Small at h;exact yki (by omega)
 ·exact y6n _ _ _ _
theorem ybc (ka xa ya za p0 p1 p2 kb xb yb zb q0 q1 q2 : Int) (w : World) (h : ¬ ka = 1) (h' : kb = 1) : Calls Tryz.prog 59 #[.agg #[I ka,I xa,I ya,I za],.agg #[I p0,I p1,I p2],.agg #[I kb,I xb,I yb,I zb],.agg #[I q0,I q1,I q2]] w fun e w' => e = .returned (.tuple #[.agg #[I ((negT (refBallT xb q0 q1 q2 (sub p0 xa) (sub p1 (hf ka xa ya)) (sub p2 (hf ka xa za)) (add p0 xa) (add p1 (hf ka xa ya)) (add p2 (hf ka xa za)))).x),I ((negT (refBallT xb q0 q1 q2 (sub p0 xa) (sub p1 (hf ka xa ya)) (sub p2 (hf ka xa za)) (add p0 xa) (add p1 (hf ka xa ya)) (add p2 (hf ka xa za)))).y),I ((negT (refBallT xb q0 q1 q2 (sub p0 xa) (sub p1 (hf ka xa ya)) (sub p2 (hf ka xa za)) (add p0 xa) (add p1 (hf ka xa ya)) (add p2 (hf ka xa za)))).z)],I ((negT (refBallT xb q0 q1 q2 (sub p0 xa) (sub p1 (hf ka xa ya)) (sub p2 (hf ka xa za)) (add p0 xa) (add p1 (hf ka xa ya)) (add p2 (hf ka xa za)))).d),.bool (negT (refBallT xb q0 q1 q2 (sub p0 xa) (sub p1 (hf ka xa ya)) (sub p2 (hf ka xa za)) (add p0 xa) (add p1 (hf ka xa ya)) (add p2 (hf ka xa za)))).ok]) ∧ Kept w w' := by
 have hb : (ka == 1) = false := by simp [h]
 have hb' : (kb == 1) = true := by simp [h']
 clear h h';go_enter Tryz.func59,Tryz.ntmps59
 go_wp2_with fail
 refine (y66 kb xb yb zb q0 q1 q2 ka xa ya za p0 p1 p2 _ (by simpa using hb') (by simpa using hb)).mono ?_; rintro e w1 ⟨rfl,k1⟩;have hl := yd0 xb q0 q1 q2 (sub p0 xa) (sub p1 (hf ka xa ya)) (sub p2 (hf ka xa za)) (add p0 xa) (add p1 (hf ka xa ya)) (add p2 (hf ka xa za));generalize hTT : (refBallT xb q0 q1 q2 (sub p0 xa) (sub p1 (hf ka xa ya)) (sub p2 (hf ka xa za)) (add p0 xa) (add p1 (hf ka xa ya)) (add p2 (hf ka xa za))) = tt at hl ⊢;have HTT : Aside ((refBallT xb q0 q1 q2 (sub p0 xa) (sub p1 (hf ka xa ya)) (sub p2 (hf ka xa za)) (add p0 xa) (add p1 (hf ka xa ya)) (add p2 (hf ka xa za))) = tt) := hTT;clear hTT;obtain ⟨⟨l1,l2⟩,⟨l3,l4⟩,l5,l6⟩ := hl;have c0 := later (y00 k1 (a := Y (w.heap.size + 1 + 1 + 1 + 1) 0) (v := I 0) (by go_simp)) (.cells #[I tt.x,I tt.y,I tt.z] 23);have c1 := later (y00 k1 (a := Y (w.heap.size + 1 + 1 + 1 + 1) 1) (v := I 0) (by go_simp)) (.cells #[I tt.x,I tt.y,I tt.z] 23);have c2 := later (y00 k1 (a := Y (w.heap.size + 1 + 1 + 1 + 1) 2) (v := I 0) (by go_simp)) (.cells #[I tt.x,I tt.y,I tt.z] 23);have f0 := laterF (y01 k1 (a := Y (w.heap.size + 1 + 1 + 1 + 1) 0) (b := false) (by go_simp));have f1 := laterF (y01 k1 (a := Y (w.heap.size + 1 + 1 + 1 + 1) 1) (b := false) (by go_simp));have f2 := laterF (y01 k1 (a := Y (w.heap.size + 1 + 1 + 1 + 1) 2) (b := false) (by go_simp));have hkt : Kept w (w1.alloc (.cells #[I tt.x,I tt.y,I tt.z] 23)) := ((((((((Kept.refl w).alloc _ _).alloc _ _).alloc _ _).alloc _ _).alloc _ _).alloc _ _).trans k1).alloc _ _;clear k1;go_wp2
 obtain ⟨e0,e1,e2⟩ := y0b (v0 := I (-tt.x)) (v1 := I (-tt.y)) (v2 := I (-tt.z)) c0 c1 c2;exact bodyPost_ret (v := .tuple #[.agg #[I (-tt.x),I (-tt.y),I (-tt.z)],I tt.d,.bool tt.ok]) (by simp [results,Tryz.results59,go_sem,e0,e1,e2]) rfl ⟨by rw [HTT.out]; rfl,y07 hkt (by omega) _ _ _⟩
def refBoxesT (a0 a1 a2 a3 a4 a5 b0 b1 b2 b3 b4 b5 : Int) : T := if meetB a0 a1 a2 a3 a4 a5 b0 b1 b2 b3 b4 b5 = true then doneT (outE a0 a1 a2 a3 a4 a5 b0 b1 b2 b3 b4 b5).x (outE a0 a1 a2 a3 a4 a5 b0 b1 b2 b3 b4 b5).y (outE a0 a1 a2 a3 a4 a5 b0 b1 b2 b3 b4 b5).z (outE a0 a1 a2 a3 a4 a5 b0 b1 b2 b3 b4 b5).d else noT
theorem yb3 (ka xa ya za p0 p1 p2 kb xb yb zb q0 q1 q2 : Int) (w : World) (h : ¬ ka = 1) (h' : ¬ kb = 1) : Calls Tryz.prog 59 #[.agg #[I ka,I xa,I ya,I za],.agg #[I p0,I p1,I p2],.agg #[I kb,I xb,I yb,I zb],.agg #[I q0,I q1,I q2]] w fun e w' => e = .returned (.tuple #[.agg #[I ((refBoxesT (sub p0 xa) (sub p1 (hf ka xa ya)) (sub p2 (hf ka xa za)) (add p0 xa) (add p1 (hf ka xa ya)) (add p2 (hf ka xa za)) (sub q0 xb) (sub q1 (hf kb xb yb)) (sub q2 (hf kb xb zb)) (add q0 xb) (add q1 (hf kb xb yb)) (add q2 (hf kb xb zb))).x),I ((refBoxesT (sub p0 xa) (sub p1 (hf ka xa ya)) (sub p2 (hf ka xa za)) (add p0 xa) (add p1 (hf ka xa ya)) (add p2 (hf ka xa za)) (sub q0 xb) (sub q1 (hf kb xb yb)) (sub q2 (hf kb xb zb)) (add q0 xb) (add q1 (hf kb xb yb)) (add q2 (hf kb xb zb))).y),I ((refBoxesT (sub p0 xa) (sub p1 (hf ka xa ya)) (sub p2 (hf ka xa za)) (add p0 xa) (add p1 (hf ka xa ya)) (add p2 (hf ka xa za)) (sub q0 xb) (sub q1 (hf kb xb yb)) (sub q2 (hf kb xb zb)) (add q0 xb) (add q1 (hf kb xb yb)) (add q2 (hf kb xb zb))).z)],I ((refBoxesT (sub p0 xa) (sub p1 (hf ka xa ya)) (sub p2 (hf ka xa za)) (add p0 xa) (add p1 (hf ka xa ya)) (add p2 (hf ka xa za)) (sub q0 xb) (sub q1 (hf kb xb yb)) (sub q2 (hf kb xb zb)) (add q0 xb) (add q1 (hf kb xb yb)) (add q2 (hf kb xb zb))).d),.bool (refBoxesT (sub p0 xa) (sub p1 (hf ka xa ya)) (sub p2 (hf ka xa za)) (add p0 xa) (add p1 (hf ka xa ya)) (add p2 (hf ka xa za)) (sub q0 xb) (sub q1 (hf kb xb yb)) (sub q2 (hf kb xb zb)) (add q0 xb) (add q1 (hf kb xb yb)) (add q2 (hf kb xb zb))).ok]) ∧ Kept w w' := by
 have hb : (ka == 1) = false := by simp [h]
 have hb' : (kb == 1) = false := by simp [h']
 clear h h';go_enter Tryz.func59,Tryz.ntmps59
 go_wp2
 have HA : ShAAt (w.heap.size) (w.heap.size + 1) (w.heap.size + 1 + 1) (w.heap.size + 1 + 1 + 1) (I ka) (I xa) (I ya) (I za) (I p0) (I p1) (I p2) (I kb) (I xb) (I yb) (I zb) (I q0) (I q1) (I q2) ((((((w.alloc (.cells #[I ka,I xa,I ya,I za] 43)).alloc (.cells #[I p0,I p1,I p2] 23)).alloc (.cells #[I kb,I xb,I yb,I zb] 43)).alloc (.cells #[I q0,I q1,I q2] 23)).alloc (.cells #[I 0,I 0,I 0] 23)).alloc (.cells #[I 0,I 0,I 0] 23)) := by
  refine ⟨?_,?_,?_,?_,?_,?_,?_,?_,?_,?_,?_,?_,?_,?_⟩ <;> go_simp
 have hkA : Kept w ((((((w.alloc (.cells #[I ka,I xa,I ya,I za] 43)).alloc (.cells #[I p0,I p1,I p2] 23)).alloc (.cells #[I kb,I xb,I yb,I zb] 43)).alloc (.cells #[I q0,I q1,I q2] 23)).alloc (.cells #[I 0,I 0,I 0] 23)).alloc (.cells #[I 0,I 0,I 0] 23)) := (((((((Kept.refl w).alloc _ _).alloc _ _).alloc _ _).alloc _ _).alloc _ _).alloc _ _)
 have WC : Aside (∀ i,i < 3 → ((((((w.alloc (.cells #[I ka,I xa,I ya,I za] 43)).alloc (.cells #[I p0,I p1,I p2] 23)).alloc (.cells #[I kb,I xb,I yb,I zb] 43)).alloc (.cells #[I q0,I q1,I q2] 23)).alloc (.cells #[I 0,I 0,I 0] 23)).alloc (.cells #[I 0,I 0,I 0] 23)).cell? (Y (w.heap.size + 1 + 1 + 1 + 1 + 1) i) = some (I 0)) := by
  intro i hi;obtain rfl | rfl | rfl : i = 0 ∨ i = 1 ∨ i = 2 := by omega
  all_goals go_simp
 have WF : Aside (∀ i,((((((w.alloc (.cells #[I ka,I xa,I ya,I za] 43)).alloc (.cells #[I p0,I p1,I p2] 23)).alloc (.cells #[I kb,I xb,I yb,I zb] 43)).alloc (.cells #[I q0,I q1,I q2] 23)).alloc (.cells #[I 0,I 0,I 0] 23)).alloc (.cells #[I 0,I 0,I 0] 23)).frozen? (Y (w.heap.size + 1 + 1 + 1 + 1 + 1) i) = false) := fun i => by go_simp
 have RC : Aside (∀ i,i < 3 → ((((((w.alloc (.cells #[I ka,I xa,I ya,I za] 43)).alloc (.cells #[I p0,I p1,I p2] 23)).alloc (.cells #[I kb,I xb,I yb,I zb] 43)).alloc (.cells #[I q0,I q1,I q2] 23)).alloc (.cells #[I 0,I 0,I 0] 23)).alloc (.cells #[I 0,I 0,I 0] 23)).cell? (Y (w.heap.size + 1 + 1 + 1 + 1) i) = some (I 0)) := by
  intro i hi;obtain rfl | rfl | rfl : i = 0 ∨ i = 1 ∨ i = 2 := by omega
  all_goals go_simp
 have RF : Aside (∀ i,((((((w.alloc (.cells #[I ka,I xa,I ya,I za] 43)).alloc (.cells #[I p0,I p1,I p2] 23)).alloc (.cells #[I kb,I xb,I yb,I zb] 43)).alloc (.cells #[I q0,I q1,I q2] 23)).alloc (.cells #[I 0,I 0,I 0] 23)).alloc (.cells #[I 0,I 0,I 0] 23)).frozen? (Y (w.heap.size + 1 + 1 + 1 + 1) i) = false) := fun i => by go_simp
 generalize ((((((w.alloc (.cells #[I ka,I xa,I ya,I za] 43)).alloc (.cells #[I p0,I p1,I p2] 23)).alloc (.cells #[I kb,I xb,I yb,I zb] 43)).alloc (.cells #[I q0,I q1,I q2] 23)).alloc (.cells #[I 0,I 0,I 0] 23)).alloc (.cells #[I 0,I 0,I 0] 23)) = wA at HA hkA WC WF RC RF ⊢;go_cut [19,20] from 21 (fun s19 s20 wc => ∃ p q,s19 = .pointer (some (Y p 0)) ∧ s20 = .pointer (some (Y q 0)) ∧ Kept wA wc ∧ wc.cell? (Y p 0) = some (I (sub p0 xa)) ∧ wc.cell? (Y p 1) = some (I (sub p1 (hf ka xa ya))) ∧ wc.cell? (Y p 2) = some (I (sub p2 (hf ka xa za))) ∧ wc.cell? (Y p 3) = some (I (add p0 xa)) ∧ wc.cell? (Y p 4) = some (I (add p1 (hf ka xa ya))) ∧ wc.cell? (Y p 5) = some (I (add p2 (hf ka xa za))) ∧ wc.cell? (Y q 0) = some (I (sub q0 xb)) ∧ wc.cell? (Y q 1) = some (I (sub q1 (hf kb xb yb))) ∧ wc.cell? (Y q 2) = some (I (sub q2 (hf kb xb zb))) ∧ wc.cell? (Y q 3) = some (I (add q0 xb)) ∧ wc.cell? (Y q 4) = some (I (add q1 (hf kb xb yb))) ∧ wc.cell? (Y q 5) = some (I (add q2 (hf kb xb zb))))
 case first =>
  refine wp_region_held_drew (S := (fun w' => Kept wA w' ∧ Zc w' w.heap.size 0 ka ∧ Zc w' w.heap.size 1 xa ∧ Zc w' w.heap.size 2 ya ∧ Zc w' w.heap.size 3 za ∧ Zc w' (w.heap.size + 1) 0 p0 ∧ Zc w' (w.heap.size + 1) 1 p1 ∧ Zc w' (w.heap.size + 1) 2 p2 ∧ Zc w' (w.heap.size + 1 + 1) 0 kb ∧ Zc w' (w.heap.size + 1 + 1) 1 xb ∧ Zc w' (w.heap.size + 1 + 1) 2 yb ∧ Zc w' (w.heap.size + 1 + 1) 3 zb ∧ Zc w' (w.heap.size + 1 + 1 + 1) 0 q0 ∧ Zc w' (w.heap.size + 1 + 1 + 1) 1 q1 ∧ Zc w' (w.heap.size + 1 + 1 + 1) 2 q2)) (by kernel_rfl) ?_ (fun hH0 => ?_)
  ·exact ⟨kd,HA.step kd⟩
  refine tkU 0 (h:=tkU 1 (h:=tkU 3 (h:=tkV 4 ?_)));try simp only [zP]
  refine y22 [⟨2,23,.agg #[I (sub p0 xa),I (sub p1 (hf ka xa ya)),I (sub p2 (hf ka xa za)),I (add p0 xa),I (add p1 (hf ka xa ya)),I (add p2 (hf ka xa za))]⟩,⟨5,26,.agg #[I (sub q0 xb),I (sub q1 (hf kb xb yb)),I (sub q2 (hf kb xb zb)),I (add q0 xb),I (add q1 (hf kb xb yb)),I (add q2 (hf kb xb zb))]⟩] [(6,19),(7,20)] #[I 0,I 0,I 0,I 0,I 0,I 0] 60 2 (by kernel_rfl) (by decide) (by simp) ?_ ?_ (fun w' kw _ => ⟨(((Kept.refl wA).drew.trans kw).alloc _ _),HA.step (((Kept.refl wA).drew.trans kw).alloc _ _)⟩) (⟨(Kept.refl wA).drew,HA.step (Kept.refl wA).drew⟩) ?_
  ·intro done cc rest hd xs w' K kw hs hK
   rcases calls2 hd with ⟨rfl,rfl⟩ | ⟨rfl,rfl⟩
   ·simp only [putX,putCs,List.foldl_cons,List.foldl_nil,zT] at hK ⊢
    unfold wpOp;simp only [zR];first | (with_reducible refine iteYes ?hcx ?htx; case hcx => kernel_rfl) | rw [if_pos (by rfl)]
    left;go_simp
    (go_at_call 16; refine (y0p _ _ _ _ _ _ _ _).mono ?_; rintro e w2 ⟨rfl,k2⟩)
    try go_wp2_with fail
    exact hK _ k2 (⟨((Kept.refl wA).drew.trans (kw.trans k2)),HA.step ((Kept.refl wA).drew.trans (kw.trans k2))⟩)
   ·simp only [putX,putCs,List.foldl_cons,List.foldl_nil,zT] at hK ⊢
    unfold wpOp;simp only [zR];first | (with_reducible refine iteYes ?hcx ?htx; case hcx => kernel_rfl) | rw [if_pos (by rfl)]
    left;go_simp
    (go_at_call 16; refine (y0p _ _ _ _ _ _ _ _).mono ?_; rintro e w2 ⟨rfl,k2⟩)
    try go_wp2_with fail
    exact hK _ k2 (⟨((Kept.refl wA).drew.trans (kw.trans k2)),HA.step ((Kept.refl wA).drew.trans (kw.trans k2))⟩)
  ·intro p hp a' w' K hK
   simp only [zrd,List.not_mem_nil,or_false] at hp;rcases hp with rfl | rfl
   all_goals
    unfold wpOp;simp only [zR];first | (with_reducible refine iteYes ?hcx ?htx; case hcx => kernel_rfl) | rw [if_pos (by rfl)]
    left;go_simp
    exact hK
  ·intro f wz0 hf hinj kz hs
   have hP := hf (6,19) (by simp);have hQ := hf (7,20) (by simp);have n01 : f 19 ≠ f 20 := fun e => by have := hinj (6,19) (by simp) (7,20) (by simp) e; simp at this
   simp only at hP hQ;simp only [setN,putX,putCs,ptrV,List.map_cons,List.map_nil,List.cons_append,List.nil_append,List.foldl_cons,List.foldl_nil,zT];clear hf hinj;generalize f 19 = pp at hP n01 ⊢;generalize f 20 = qq at hQ n01 ⊢;have KZ : Hid (Kept wA wz0) := (Kept.refl wA).drew.trans kz;clear kz hs;have Hpp : Hid (wA.heap.size ≤ pp ∧ wz0.heap[pp]? = some (.cells #[I 0,I 0,I 0,I 0,I 0,I 0] 60)) := hP;clear hP;have Hqq : Hid (wA.heap.size ≤ qq ∧ wz0.heap[qq]? = some (.cells #[I 0,I 0,I 0,I 0,I 0,I 0] 60)) := hQ;clear hQ;have z0 := y08 Hpp.out.2 0; have y0 := y0h Hpp.out.2 0; have z1 := y08 Hpp.out.2 1; have y1 := y0h Hpp.out.2 1; have z2 := y08 Hpp.out.2 2; have y2 := y0h Hpp.out.2 2; have z3 := y08 Hpp.out.2 3; have y3 := y0h Hpp.out.2 3; have z4 := y08 Hpp.out.2 4; have y4 := y0h Hpp.out.2 4; have z5 := y08 Hpp.out.2 5; have y5 := y0h Hpp.out.2 5;simp only [zR] at z0 z1 z2 z3 z4 z5;refine rdW 8 rfl fun K hK => ?_;simp only [zQ];go_simp;refine hK.out _ _ ?_ fun hS0 => ?_
   ·exact ⟨((((((KZ.out.setCell (p := Y pp 0) Hpp.out.1 _).setCell (p := Y pp 1) Hpp.out.1 _).setCell (p := Y pp 2) Hpp.out.1 _).setCell (p := Y pp 3) Hpp.out.1 _).setCell (p := Y pp 4) Hpp.out.1 _).setCell (p := Y pp 5) Hpp.out.1 _),HA.step ((((((KZ.out.setCell (p := Y pp 0) Hpp.out.1 _).setCell (p := Y pp 1) Hpp.out.1 _).setCell (p := Y pp 2) Hpp.out.1 _).setCell (p := Y pp 3) Hpp.out.1 _).setCell (p := Y pp 4) Hpp.out.1 _).setCell (p := Y pp 5) Hpp.out.1 _)⟩
   clear hK K hS0 z0 y0 z1 y1 z2 y2 z3 y3 z4 y4 z5 y5;try simp only [zP]
   have KY : Hid (Kept wA ((((((wz0.setCell (Y pp 0) (I (sub p0 xa))).setCell (Y pp 1) (I (sub p1 (hf ka xa ya)))).setCell (Y pp 2) (I (sub p2 (hf ka xa za)))).setCell (Y pp 3) (I (add p0 xa))).setCell (Y pp 4) (I (add p1 (hf ka xa ya)))).setCell (Y pp 5) (I (add p2 (hf ka xa za))))) := ((((((KZ.out.setCell (p := Y pp 0) Hpp.out.1 _).setCell (p := Y pp 1) Hpp.out.1 _).setCell (p := Y pp 2) Hpp.out.1 _).setCell (p := Y pp 3) Hpp.out.1 _).setCell (p := Y pp 4) Hpp.out.1 _).setCell (p := Y pp 5) Hpp.out.1 _);have Gpp : Hid (wA.heap.size ≤ pp ∧ ((((((wz0.setCell (Y pp 0) (I (sub p0 xa))).setCell (Y pp 1) (I (sub p1 (hf ka xa ya)))).setCell (Y pp 2) (I (sub p2 (hf ka xa za)))).setCell (Y pp 3) (I (add p0 xa))).setCell (Y pp 4) (I (add p1 (hf ka xa ya)))).setCell (Y pp 5) (I (add p2 (hf ka xa za)))).heap[pp]? = some (.cells #[I (sub p0 xa),I (sub p1 (hf ka xa ya)),I (sub p2 (hf ka xa za)),I (add p0 xa),I (add p1 (hf ka xa ya)),I (add p2 (hf ka xa za))] 60)) := ⟨Hpp.out.1,(y0d (y0d (y0d (y0d (y0d (y0d Hpp.out.2 _ _) _ _) _ _) _ _) _ _) _ _)⟩;have Gqq : Hid (wA.heap.size ≤ qq ∧ ((((((wz0.setCell (Y pp 0) (I (sub p0 xa))).setCell (Y pp 1) (I (sub p1 (hf ka xa ya)))).setCell (Y pp 2) (I (sub p2 (hf ka xa za)))).setCell (Y pp 3) (I (add p0 xa))).setCell (Y pp 4) (I (add p1 (hf ka xa ya)))).setCell (Y pp 5) (I (add p2 (hf ka xa za)))).heap[qq]? = some (.cells #[I 0,I 0,I 0,I 0,I 0,I 0] 60)) := ⟨Hqq.out.1,(y0r (y0r (y0r (y0r (y0r (y0r Hqq.out.2 (fun e => n01 e.symm) _ _) (fun e => n01 e.symm) _ _) (fun e => n01 e.symm) _ _) (fun e => n01 e.symm) _ _) (fun e => n01 e.symm) _ _) (fun e => n01 e.symm) _ _)⟩;clear KZ Hpp Hqq;generalize ((((((wz0.setCell (Y pp 0) (I (sub p0 xa))).setCell (Y pp 1) (I (sub p1 (hf ka xa ya)))).setCell (Y pp 2) (I (sub p2 (hf ka xa za)))).setCell (Y pp 3) (I (add p0 xa))).setCell (Y pp 4) (I (add p1 (hf ka xa ya)))).setCell (Y pp 5) (I (add p2 (hf ka xa za)))) = wz1 at KY Gpp Gqq ⊢;have KZ := KY;have Hpp := Gpp; have Hqq := Gqq;clear KY Gpp Gqq;have z0 := y08 Hqq.out.2 0; have y0 := y0h Hqq.out.2 0; have z1 := y08 Hqq.out.2 1; have y1 := y0h Hqq.out.2 1; have z2 := y08 Hqq.out.2 2; have y2 := y0h Hqq.out.2 2; have z3 := y08 Hqq.out.2 3; have y3 := y0h Hqq.out.2 3; have z4 := y08 Hqq.out.2 4; have y4 := y0h Hqq.out.2 4; have z5 := y08 Hqq.out.2 5; have y5 := y0h Hqq.out.2 5;simp only [zR] at z0 z1 z2 z3 z4 z5;refine rdW 9 rfl fun K hK => ?_;simp only [zQ];go_simp;refine hK.out _ _ ?_ fun hS1 => ?_
   ·exact ⟨((((((KZ.out.setCell (p := Y qq 0) Hqq.out.1 _).setCell (p := Y qq 1) Hqq.out.1 _).setCell (p := Y qq 2) Hqq.out.1 _).setCell (p := Y qq 3) Hqq.out.1 _).setCell (p := Y qq 4) Hqq.out.1 _).setCell (p := Y qq 5) Hqq.out.1 _),HA.step ((((((KZ.out.setCell (p := Y qq 0) Hqq.out.1 _).setCell (p := Y qq 1) Hqq.out.1 _).setCell (p := Y qq 2) Hqq.out.1 _).setCell (p := Y qq 3) Hqq.out.1 _).setCell (p := Y qq 4) Hqq.out.1 _).setCell (p := Y qq 5) Hqq.out.1 _)⟩
   clear hK K hS1 z0 y0 z1 y1 z2 y2 z3 y3 z4 y4 z5 y5;try simp only [zP]
   have KY : Hid (Kept wA ((((((wz1.setCell (Y qq 0) (I (sub q0 xb))).setCell (Y qq 1) (I (sub q1 (hf kb xb yb)))).setCell (Y qq 2) (I (sub q2 (hf kb xb zb)))).setCell (Y qq 3) (I (add q0 xb))).setCell (Y qq 4) (I (add q1 (hf kb xb yb)))).setCell (Y qq 5) (I (add q2 (hf kb xb zb))))) := ((((((KZ.out.setCell (p := Y qq 0) Hqq.out.1 _).setCell (p := Y qq 1) Hqq.out.1 _).setCell (p := Y qq 2) Hqq.out.1 _).setCell (p := Y qq 3) Hqq.out.1 _).setCell (p := Y qq 4) Hqq.out.1 _).setCell (p := Y qq 5) Hqq.out.1 _);have Gpp : Hid (wA.heap.size ≤ pp ∧ ((((((wz1.setCell (Y qq 0) (I (sub q0 xb))).setCell (Y qq 1) (I (sub q1 (hf kb xb yb)))).setCell (Y qq 2) (I (sub q2 (hf kb xb zb)))).setCell (Y qq 3) (I (add q0 xb))).setCell (Y qq 4) (I (add q1 (hf kb xb yb)))).setCell (Y qq 5) (I (add q2 (hf kb xb zb)))).heap[pp]? = some (.cells #[I (sub p0 xa),I (sub p1 (hf ka xa ya)),I (sub p2 (hf ka xa za)),I (add p0 xa),I (add p1 (hf ka xa ya)),I (add p2 (hf ka xa za))] 60)) := ⟨Hpp.out.1,(y0r (y0r (y0r (y0r (y0r (y0r Hpp.out.2 n01 _ _) n01 _ _) n01 _ _) n01 _ _) n01 _ _) n01 _ _)⟩;have Gqq : Hid (wA.heap.size ≤ qq ∧ ((((((wz1.setCell (Y qq 0) (I (sub q0 xb))).setCell (Y qq 1) (I (sub q1 (hf kb xb yb)))).setCell (Y qq 2) (I (sub q2 (hf kb xb zb)))).setCell (Y qq 3) (I (add q0 xb))).setCell (Y qq 4) (I (add q1 (hf kb xb yb)))).setCell (Y qq 5) (I (add q2 (hf kb xb zb)))).heap[qq]? = some (.cells #[I (sub q0 xb),I (sub q1 (hf kb xb yb)),I (sub q2 (hf kb xb zb)),I (add q0 xb),I (add q1 (hf kb xb yb)),I (add q2 (hf kb xb zb))] 60)) := ⟨Hqq.out.1,(y0d (y0d (y0d (y0d (y0d (y0d Hqq.out.2 _ _) _ _) _ _) _ _) _ _) _ _)⟩;clear KZ Hpp Hqq;generalize ((((((wz1.setCell (Y qq 0) (I (sub q0 xb))).setCell (Y qq 1) (I (sub q1 (hf kb xb yb)))).setCell (Y qq 2) (I (sub q2 (hf kb xb zb)))).setCell (Y qq 3) (I (add q0 xb))).setCell (Y qq 4) (I (add q1 (hf kb xb yb)))).setCell (Y qq 5) (I (add q2 (hf kb xb zb)))) = wz2 at KY Gpp Gqq ⊢;have KZ := KY;have Hpp := Gpp; have Hqq := Gqq;clear KY Gpp Gqq;refine wpAnyH_done (by kernel_rfl) ?_ _;go_wp2_with fail
   go_meet
   case rel => exact ⟨pp,qq,rfl,rfl,KZ.out,y08 Hpp.out.2 0,y08 Hpp.out.2 1,y08 Hpp.out.2 2,y08 Hpp.out.2 3,y08 Hpp.out.2 4,y08 Hpp.out.2 5,y08 Hqq.out.2 0,y08 Hqq.out.2 1,y08 Hqq.out.2 2,y08 Hqq.out.2 3,y08 Hqq.out.2 4,y08 Hqq.out.2 5⟩
 case rest =>
  obtain ⟨p,q,rfl,rfl,kc,x0,x1,x2,x3,x4,x5,y0,y1,y2,y3,y4,y5⟩ := hcut;clear HA;obtain ⟨tt,HT⟩ : ∃ tt,(refBoxesT (sub p0 xa) (sub p1 (hf ka xa ya)) (sub p2 (hf ka xa za)) (add p0 xa) (add p1 (hf ka xa ya)) (add p2 (hf ka xa za)) (sub q0 xb) (sub q1 (hf kb xb yb)) (sub q2 (hf kb xb zb)) (add q0 xb) (add q1 (hf kb xb yb)) (add q2 (hf kb xb zb))) = tt := ⟨_,rfl⟩;have HTT : Aside ((refBoxesT (sub p0 xa) (sub p1 (hf ka xa ya)) (sub p2 (hf ka xa za)) (add p0 xa) (add p1 (hf ka xa ya)) (add p2 (hf ka xa za)) (sub q0 xb) (sub q1 (hf kb xb yb)) (sub q2 (hf kb xb zb)) (add q0 xb) (add q1 (hf kb xb yb)) (add q2 (hf kb xb zb))) = tt) := HT;unfold refBoxesT at HT
  cases hm : meetB (sub p0 xa) (sub p1 (hf ka xa ya)) (sub p2 (hf ka xa za)) (add p0 xa) (add p1 (hf ka xa ya)) (add p2 (hf ka xa za)) (sub q0 xb) (sub q1 (hf kb xb yb)) (sub q2 (hf kb xb zb)) (add q0 xb) (add q1 (hf kb xb yb)) (add q2 (hf kb xb zb)) with
  | false =>
   rw [hm,if_neg (by simp)] at HT;have HT0 : Aside (noT = tt) := HT;clear HT;go_wp2_with fail
   refine (y2i _ _ _ _ _ _ _ _ _ _ _ _ _).mono ?_; rintro e w1 ⟨rfl,k1⟩;have c0 := y00 k1 (y00 kc (RC.out 0 (by omega)));have c1 := y00 k1 (y00 kc (RC.out 1 (by omega)));have c2 := y00 k1 (y00 kc (RC.out 2 (by omega)));have f0 := y01 k1 (y01 kc (RF.out 0));have f1 := y01 k1 (y01 kc (RF.out 1));have f2 := y01 k1 (y01 kc (RF.out 2));have hkt : Kept w w1 := (hkA.trans kc).trans k1;clear k1 x0 x1 x2 x3 x4 x5 y0 y1 y2 y3 y4 y5;go_wp2
   obtain ⟨e0,e1,e2⟩ := y0b (v0 := I 0) (v1 := I 0) (v2 := I 0) c0 c1 c2;exact bodyPost_ret (v := .tuple #[.agg #[I 0,I 0,I 0],I 0,.bool false]) (by simp [results,Tryz.results59,go_sem,e0,e1,e2]) rfl ⟨by rw [HTT.out,← HT0.out]; rfl,y07 hkt (by omega) _ _ _⟩
  | true =>
   rw [hm,if_pos rfl] at HT;have HT0 : Aside (doneT (outE (sub p0 xa) (sub p1 (hf ka xa ya)) (sub p2 (hf ka xa za)) (add p0 xa) (add p1 (hf ka xa ya)) (add p2 (hf ka xa za)) (sub q0 xb) (sub q1 (hf kb xb yb)) (sub q2 (hf kb xb zb)) (add q0 xb) (add q1 (hf kb xb yb)) (add q2 (hf kb xb zb))).x (outE (sub p0 xa) (sub p1 (hf ka xa ya)) (sub p2 (hf ka xa za)) (add p0 xa) (add p1 (hf ka xa ya)) (add p2 (hf ka xa za)) (sub q0 xb) (sub q1 (hf kb xb yb)) (sub q2 (hf kb xb zb)) (add q0 xb) (add q1 (hf kb xb yb)) (add q2 (hf kb xb zb))).y (outE (sub p0 xa) (sub p1 (hf ka xa ya)) (sub p2 (hf ka xa za)) (add p0 xa) (add p1 (hf ka xa ya)) (add p2 (hf ka xa za)) (sub q0 xb) (sub q1 (hf kb xb yb)) (sub q2 (hf kb xb zb)) (add q0 xb) (add q1 (hf kb xb yb)) (add q2 (hf kb xb zb))).z (outE (sub p0 xa) (sub p1 (hf ka xa ya)) (sub p2 (hf ka xa za)) (add p0 xa) (add p1 (hf ka xa ya)) (add p2 (hf ka xa za)) (sub q0 xb) (sub q1 (hf kb xb yb)) (sub q2 (hf kb xb zb)) (add q0 xb) (add q1 (hf kb xb yb)) (add q2 (hf kb xb zb))).d = tt) := HT;clear HT;go_wp2_with fail
   refine (y2i _ _ _ _ _ _ _ _ _ _ _ _ _).mono ?_; rintro e w1 ⟨rfl,k1⟩;have x0 := y00 k1 x0;have x1 := y00 k1 x1;have x2 := y00 k1 x2;have x3 := y00 k1 x3;have x4 := y00 k1 x4;have x5 := y00 k1 x5;have y0 := y00 k1 y0;have y1 := y00 k1 y1;have y2 := y00 k1 y2;have y3 := y00 k1 y3;have y4 := y00 k1 y4;have y5 := y00 k1 y5;go_wp2_with fail
   refine (y77 _ _ _ _ _ _ _ _ _ _ _ _ _).mono ?_; rintro e w2 ⟨rfl,k2⟩;generalize (outE (sub p0 xa) (sub p1 (hf ka xa ya)) (sub p2 (hf ka xa za)) (add p0 xa) (add p1 (hf ka xa ya)) (add p2 (hf ka xa za)) (sub q0 xb) (sub q1 (hf kb xb yb)) (sub q2 (hf kb xb zb)) (add q0 xb) (add q1 (hf kb xb yb)) (add q2 (hf kb xb zb))) = E at HT0 ⊢;have v0 := y00 k2 (y00 k1 (y00 kc (WC.out 0 (by omega))));have v1 := y00 k2 (y00 k1 (y00 kc (WC.out 1 (by omega))));have v2 := y00 k2 (y00 k1 (y00 kc (WC.out 2 (by omega))));have g0 := y01 k2 (y01 k1 (y01 kc (WF.out 0)));have g1 := y01 k2 (y01 k1 (y01 kc (WF.out 1)));have g2 := y01 k2 (y01 k1 (y01 kc (WF.out 2)));obtain ⟨m0,m1,m2⟩ := y0b (v0 := I E.x) (v1 := I E.y) (v2 := I E.z) v0 v1 v2;have c0 : (((w2.setCell (Y (w.heap.size + 1 + 1 + 1 + 1 + 1) 0) (I E.x)).setCell (Y (w.heap.size + 1 + 1 + 1 + 1 + 1) 1) (I E.y)).setCell (Y (w.heap.size + 1 + 1 + 1 + 1 + 1) 2) (I E.z)).cell? (Y (w.heap.size + 1 + 1 + 1 + 1) 0) = some (I 0) := (zra _ _ _ _ (fun e => by injection e with e; omega)).trans ((zra _ _ _ _ (fun e => by injection e with e; omega)).trans ((zra _ _ _ _ (fun e => by injection e with e; omega)).trans (y00 k2 (y00 k1 (y00 kc (RC.out 0 (by omega)))))));have c1 : (((w2.setCell (Y (w.heap.size + 1 + 1 + 1 + 1 + 1) 0) (I E.x)).setCell (Y (w.heap.size + 1 + 1 + 1 + 1 + 1) 1) (I E.y)).setCell (Y (w.heap.size + 1 + 1 + 1 + 1 + 1) 2) (I E.z)).cell? (Y (w.heap.size + 1 + 1 + 1 + 1) 1) = some (I 0) := (zra _ _ _ _ (fun e => by injection e with e; omega)).trans ((zra _ _ _ _ (fun e => by injection e with e; omega)).trans ((zra _ _ _ _ (fun e => by injection e with e; omega)).trans (y00 k2 (y00 k1 (y00 kc (RC.out 1 (by omega)))))));have c2 : (((w2.setCell (Y (w.heap.size + 1 + 1 + 1 + 1 + 1) 0) (I E.x)).setCell (Y (w.heap.size + 1 + 1 + 1 + 1 + 1) 1) (I E.y)).setCell (Y (w.heap.size + 1 + 1 + 1 + 1 + 1) 2) (I E.z)).cell? (Y (w.heap.size + 1 + 1 + 1 + 1) 2) = some (I 0) := (zra _ _ _ _ (fun e => by injection e with e; omega)).trans ((zra _ _ _ _ (fun e => by injection e with e; omega)).trans ((zra _ _ _ _ (fun e => by injection e with e; omega)).trans (y00 k2 (y00 k1 (y00 kc (RC.out 2 (by omega)))))));have f0 : (((w2.setCell (Y (w.heap.size + 1 + 1 + 1 + 1 + 1) 0) (I E.x)).setCell (Y (w.heap.size + 1 + 1 + 1 + 1 + 1) 1) (I E.y)).setCell (Y (w.heap.size + 1 + 1 + 1 + 1 + 1) 2) (I E.z)).frozen? (Y (w.heap.size + 1 + 1 + 1 + 1) 0) = false := (zrb _ _ _ _).trans ((zrb _ _ _ _).trans ((zrb _ _ _ _).trans (y01 k2 (y01 k1 (y01 kc (RF.out 0))))));have f1 : (((w2.setCell (Y (w.heap.size + 1 + 1 + 1 + 1 + 1) 0) (I E.x)).setCell (Y (w.heap.size + 1 + 1 + 1 + 1 + 1) 1) (I E.y)).setCell (Y (w.heap.size + 1 + 1 + 1 + 1 + 1) 2) (I E.z)).frozen? (Y (w.heap.size + 1 + 1 + 1 + 1) 1) = false := (zrb _ _ _ _).trans ((zrb _ _ _ _).trans ((zrb _ _ _ _).trans (y01 k2 (y01 k1 (y01 kc (RF.out 1))))))
   have f2 : (((w2.setCell (Y (w.heap.size + 1 + 1 + 1 + 1 + 1) 0) (I E.x)).setCell (Y (w.heap.size + 1 + 1 + 1 + 1 + 1) 1) (I E.y)).setCell (Y (w.heap.size + 1 + 1 + 1 + 1 + 1) 2) (I E.z)).frozen? (Y (w.heap.size + 1 + 1 + 1 + 1) 2) = false := (zrb _ _ _ _).trans ((zrb _ _ _ _).trans ((zrb _ _ _ _).trans (y01 k2 (y01 k1 (y01 kc (RF.out 2))))));have hkt : Kept w (((w2.setCell (Y (w.heap.size + 1 + 1 + 1 + 1 + 1) 0) (I E.x)).setCell (Y (w.heap.size + 1 + 1 + 1 + 1 + 1) 1) (I E.y)).setCell (Y (w.heap.size + 1 + 1 + 1 + 1 + 1) 2) (I E.z)) := y07 (((hkA.trans kc).trans k1).trans k2) (by omega) _ _ _;clear x0 x1 x2 x3 x4 x5 y0 y1 y2 y3 y4 y5 k1 k2
   cases hd : decide (E.d ≤ 0) with
   | true =>
    go_wp2
    obtain ⟨e0,e1,e2⟩ := y0b (v0 := I 0) (v1 := I 0) (v2 := I 0) c0 c1 c2;exact bodyPost_ret (v := .tuple #[.agg #[I 0,I 0,I 0],I 0,.bool false]) (by simp [results,Tryz.results59,go_sem,e0,e1,e2]) rfl ⟨by rw [HTT.out,← HT0.out,y7i (of_decide_eq_true hd)]; rfl,y07 hkt (by omega) _ _ _⟩
   | false =>
    go_wp2
    obtain ⟨e0,e1,e2⟩ := y0b (v0 := I E.x) (v1 := I E.y) (v2 := I E.z) c0 c1 c2;exact bodyPost_ret (v := .tuple #[.agg #[I E.x,I E.y,I E.z],I E.d,.bool true]) (by simp [results,Tryz.results59,go_sem,e0,e1,e2]) rfl ⟨by rw [HTT.out,← HT0.out,y42 (of_decide_eq_false hd)],y07 hkt (by omega) _ _ _⟩
end Go.Proofs.YtbenlgandjjopaaGreatDoor
