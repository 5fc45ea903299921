/- . -/
import Derived.Test.YtbenlgandjjopaaGreatDoorN38
import Derived.Lib.SmallJoins
import Derived.Deep.Slices
namespace Go.Proofs.YtbenlgandjjopaaGreatDoor.SvF
set_option maxRecDepth 100000
open Go.ChangeShapes Go.WideShapes Go.ChangeAt Go.RowKit Go.Joins Go.Deep
set_option linter.unusedVariables false
variable {fuel : Nat} {cs : List Value}
theorem own : ownKnob Tryz.prog.godebug = none := by kernel_rfl
theorem laidOut : laidOutB Tryz.prog = true := by kernel_rfl
theorem cellsInt : Tryz.prog.cellsOf 3 = 1 := by kernel_rfl
theorem cellsVec : Tryz.prog.cellsOf 23 = 3 := by kernel_rfl
theorem cellsShape : Tryz.prog.cellsOf 43 = 4 := by kernel_rfl
theorem cellsBody : Tryz.prog.cellsOf 45 = 17 := by kernel_rfl
section
variable {H : Type} {P : Program} {enc : TypeId × Value → H} {w : World} {base : Nat} {sp : Nat → Bool} {held : Bool}
theorem trod_struct8 {t : TypeId} {f0 f1 f2 f3 f4 f5 f6 f7 : Field} {x : DataW H × List MemPlace} (ht : P.underlying t = some (.struct #[f0,f1,f2,f3,f4,f5,f6,f7])) (h : DataW.trod enc P w base sp held fuel t cs = some x) :
  ∃ y0 y1 y2 y3 y4 y5 y6 y7 n,cs.length = P.cellsOf t ∧ DataW.trod enc P w base sp held n f0.type ((cs.drop f0.offset).take (P.cellsOf f0.type)) = some y0 ∧ DataW.trod enc P w base sp held n f1.type ((cs.drop f1.offset).take (P.cellsOf f1.type)) = some y1 ∧ DataW.trod enc P w base sp held n f2.type ((cs.drop f2.offset).take (P.cellsOf f2.type)) = some y2 ∧ DataW.trod enc P w base sp held n f3.type ((cs.drop f3.offset).take (P.cellsOf f3.type)) = some y3 ∧ DataW.trod enc P w base sp held n f4.type ((cs.drop f4.offset).take (P.cellsOf f4.type)) = some y4 ∧ DataW.trod enc P w base sp held n f5.type ((cs.drop f5.offset).take (P.cellsOf f5.type)) = some y5 ∧ DataW.trod enc P w base sp held n f6.type ((cs.drop f6.offset).take (P.cellsOf f6.type)) = some y6 ∧ DataW.trod enc P w base sp held n f7.type ((cs.drop f7.offset).take (P.cellsOf f7.type)) = some y7 := by
 obtain ⟨xs,n,_,rfl,hl,hlen,hf⟩ := DataW.trod_struct ht h
 match xs,hlen with
 | [y0,y1,y2,y3,y4,y5,y6,y7],_ => exact ⟨y0,y1,y2,y3,y4,y5,y6,y7,n,hl,by simpa using hf 0 f0 rfl,by simpa using hf 1 f1 rfl,by simpa using hf 2 f2 rfl,by simpa using hf 3 f3 rfl,by simpa using hf 4 f4 rfl,by simpa using hf 5 f5 rfl,by simpa using hf 6 f6 rfl,by simpa using hf 7 f7 rfl⟩
end
section
variable {H : Type} {enc : TypeId × Value → H} {w : World} {base : Nat} {sp : Nat → Bool} {held : Bool}
theorem int_open {x : DataW H × List MemPlace} (h : DataW.trod enc Tryz.prog w base sp held fuel 3 cs = some x) : ∃ a,cs = [.int .i64 a] ∧ (Lit.int .i64 a).wf = true := by
 obtain ⟨a,e,_,hw⟩ := DataW.trod_int Tryz.underlying3 h;exact ⟨a,e,hw⟩
theorem vec_open {x : DataW H × List MemPlace} (h : DataW.trod enc Tryz.prog w base sp held fuel 23 cs = some x) : ∃ a b c,cs = [.int .i64 a,.int .i64 b,.int .i64 c] := by
 obtain ⟨y0,y1,y2,n,rfl,hl,h0,h1,h2⟩ := trod_struct3 Tryz.underlying23 h;rw [cellsVec] at hl
 match cs,hl with
 | [c0,c1,c2],_ =>
  simp only [cellsInt] at h0 h1 h2;obtain ⟨a,e0,_⟩ := int_open h0;obtain ⟨b,e1,_⟩ := int_open h1;obtain ⟨c,e2,_⟩ := int_open h2;simp at e0 e1 e2;subst e0 e1 e2;exact ⟨a,b,c,rfl⟩
theorem shape_open {x : DataW H × List MemPlace} (h : DataW.trod enc Tryz.prog w base sp held fuel 43 cs = some x) : ∃ k a b c,cs = [.int .i64 k,.int .i64 a,.int .i64 b,.int .i64 c] := by
 obtain ⟨y0,y1,n,rfl,hl,h0,h1⟩ := trod_struct2 Tryz.underlying43 h;rw [cellsShape] at hl
 match cs,hl with
 | [c0,c1,c2,c3],_ =>
  simp only [cellsInt,cellsVec] at h0 h1;obtain ⟨k,e0,_⟩ := int_open h0;obtain ⟨a,b,c,e1⟩ := vec_open h1;simp at e0 e1;obtain ⟨rfl,rfl,rfl⟩ := e1;subst e0;exact ⟨k,a,b,c,rfl⟩
theorem body_open {x : DataW H × List MemPlace} (h : DataW.trod enc Tryz.prog w base sp held fuel 45 cs = some x) : ∃ q : Bd,In64S q.id ∧ cs = bdL q := by
 obtain ⟨y0,y1,y2,y3,y4,y5,y6,y7,n,hl,h0,h1,h2,h3,h4,h5,h6,h7⟩ := trod_struct8 Tryz.underlying45 h;rw [cellsBody] at hl
 match cs,hl with
 | [c0,c1,c2,c3,c4,c5,c6,c7,c8,c9,c10,c11,c12,c13,c14,c15,c16],_ =>
  simp only [cellsInt,cellsVec,cellsShape] at h0 h1 h2 h3 h4 h5 h6 h7;obtain ⟨a0,e0,hw⟩ := int_open h0;obtain ⟨a1,e1,_⟩ := int_open h1;obtain ⟨s0,s1,s2,s3,e2⟩ := shape_open h2;obtain ⟨p0,p1,p2,e3⟩ := vec_open h3;obtain ⟨v0,v1,v2,e4⟩ := vec_open h4;obtain ⟨u0,u1,u2,e5⟩ := vec_open h5;obtain ⟨a6,e6,_⟩ := int_open h6;obtain ⟨a7,e7,_⟩ := int_open h7;simp at e0 e1 e2 e3 e4 e5 e6 e7;obtain ⟨rfl,rfl,rfl,rfl⟩ := e2;obtain ⟨rfl,rfl,rfl⟩ := e3;obtain ⟨rfl,rfl,rfl⟩ := e4;obtain ⟨rfl,rfl,rfl⟩ := e5;subst e0 e1 e6 e7;exact ⟨⟨a0,a1,s0,s1,s2,s3,p0,p1,p2,v0,v1,v2,u0,u1,u2,a6,a7⟩,hw,rfl⟩
end
end Go.Proofs.YtbenlgandjjopaaGreatDoor.SvF
