/- . -/
import Derived.Test.YtbenlgandjjopaaGreatDoorN22
import Derived.Test.YtbenlgandjjopaaGreatDoorN13
open Go.World renaming frozen?_setCell → zrb
open List renaming mem_cons → zrd
namespace Go.Proofs.YtbenlgandjjopaaGreatDoor
set_option maxHeartbeats 8000000
open Go.ChangeShapes Go.WideShapes Go.ChangeAt Go.RowKit
set_option linter.unusedSimpArgs false
variable {w1 w w2 : World} {b0 b1 : Nat} {v0 v1 v2 v3 v4 v5 v6 v7 v8 : Value} {s x y z a0 a1 a2 a3 a4 a5 b2 b3 b4 b5 : Int}
def outE (a0 a1 a2 a3 a4 a5 b0 b1 b2 b3 b4 b5 : Int) : Ex := pickE ⟨65536,0,0,sub a3 b0⟩ ⟨-65536,0,0,sub b3 a0⟩ ⟨0,65536,0,sub a4 b1⟩ ⟨0,-65536,0,sub b4 a1⟩ ⟨0,0,65536,sub a5 b2⟩ ⟨0,0,-65536,sub b5 a2⟩ 5
theorem y67 (a0 a1 a2 a3 a4 a5 b0 b1 b2 b3 b4 b5 : Int) (w : World) :
  Calls Tryz.prog 138 #[.agg #[I a0,I a1,I a2,I a3,I a4,I a5],.agg #[I b0,I b1,I b2,I b3,I b4,I b5]] w fun e w' => e = .returned (.agg #[I ((outE a0 a1 a2 a3 a4 a5 b0 b1 b2 b3 b4 b5).x),I ((outE a0 a1 a2 a3 a4 a5 b0 b1 b2 b3 b4 b5).y),I ((outE a0 a1 a2 a3 a4 a5 b0 b1 b2 b3 b4 b5).z),I ((outE a0 a1 a2 a3 a4 a5 b0 b1 b2 b3 b4 b5).d)]) ∧ Kept w w' := by
 go_enter Tryz.func138,Tryz.ntmps138
 go_wp2
 have HA : G66At w.heap.size (w.heap.size + 1) (I a0) (I a1) (I a2) (I a3) (I a4) (I a5) (I b0) (I b1) (I b2) (I b3) (I b4) (I b5) (((w.alloc (.cells #[I a0,I a1,I a2,I a3,I a4,I a5] 57)).alloc (.cells #[I b0,I b1,I b2,I b3,I b4,I b5] 57)).alloc (.cells #[I 0,I 0,I 0,I 0] 179)) := by
  refine ⟨?_,?_,?_,?_,?_,?_,?_,?_,?_,?_,?_,?_⟩ <;> go_simp
 have hkA : Kept w (((w.alloc (.cells #[I a0,I a1,I a2,I a3,I a4,I a5] 57)).alloc (.cells #[I b0,I b1,I b2,I b3,I b4,I b5] 57)).alloc (.cells #[I 0,I 0,I 0,I 0] 179)) := (((Kept.refl w).alloc _ _).alloc _ _).alloc _ _
 have RC : ∀ i,i < 4 → (((w.alloc (.cells #[I a0,I a1,I a2,I a3,I a4,I a5] 57)).alloc (.cells #[I b0,I b1,I b2,I b3,I b4,I b5] 57)).alloc (.cells #[I 0,I 0,I 0,I 0] 179)).cell? (Y (w.heap.size + 1 + 1) i) = some (I 0) := by
  intro i hi;obtain rfl | rfl | rfl | rfl : i = 0 ∨ i = 1 ∨ i = 2 ∨ i = 3 := by omega
  all_goals go_simp
 have RF : ∀ i,(((w.alloc (.cells #[I a0,I a1,I a2,I a3,I a4,I a5] 57)).alloc (.cells #[I b0,I b1,I b2,I b3,I b4,I b5] 57)).alloc (.cells #[I 0,I 0,I 0,I 0] 179)).frozen? (Y (w.heap.size + 1 + 1) i) = false := by intro i; go_simp
 generalize (((w.alloc (.cells #[I a0,I a1,I a2,I a3,I a4,I a5] 57)).alloc (.cells #[I b0,I b1,I b2,I b3,I b4,I b5] 57)).alloc (.cells #[I 0,I 0,I 0,I 0] 179)) = wA at HA hkA RC RF ⊢;have RC' : Aside _ := RC;have RF' : Aside _ := RF;clear RC RF;go_cut [5,6] from 7 (fun s5 s6 wc => ∃ p q,s5 = .pointer (some (Y p 0)) ∧ s6 = .pointer (some (Y q 0)) ∧ Kept wA wc ∧ wc.cell? (Y p 0) = some (I (sub a3 b0)) ∧ wc.cell? (Y p 1) = some (I (sub a4 b1)) ∧ wc.cell? (Y p 2) = some (I (sub a5 b2)) ∧ wc.cell? (Y q 0) = some (I (sub b3 a0)) ∧ wc.cell? (Y q 1) = some (I (sub b4 a1)) ∧ wc.cell? (Y q 2) = some (I (sub b5 a2)))
 case first =>
  refine wp_region_held_drew (S := (fun w' => Kept wA w' ∧ Zc w' w.heap.size 0 a0 ∧ Zc w' w.heap.size 1 a1 ∧ Zc w' w.heap.size 2 a2 ∧ Zc w' w.heap.size 3 a3 ∧ Zc w' w.heap.size 4 a4 ∧ Zc w' w.heap.size 5 a5 ∧ Zc w' (w.heap.size + 1) 0 b0 ∧ Zc w' (w.heap.size + 1) 1 b1 ∧ Zc w' (w.heap.size + 1) 2 b2 ∧ Zc w' (w.heap.size + 1) 3 b3 ∧ Zc w' (w.heap.size + 1) 4 b4 ∧ Zc w' (w.heap.size + 1) 5 b5)) (by kernel_rfl) ?_ (fun hH0 => ?_)
  ·exact ⟨kd,HA.step kd⟩
  refine tkU 0 (h:=tkU 1 (h:=tkU 2 (h:=tkV 3 ?_)));try simp only [zP]
  refine tkU 5 (h:=tkU 6 (h:=tkU 7 (h:=tkV 8 ?_)));try simp only [zP]
  refine y22 [⟨4,12,.agg #[I (sub a3 b0),I (sub a4 b1),I (sub a5 b2)]⟩,⟨9,17,.agg #[I (sub b3 a0),I (sub b4 a1),I (sub b5 a2)]⟩] [(10,5),(11,6)] #[I 0,I 0,I 0] 23 2 (by kernel_rfl) (by decide) (by simp) ?_ ?_ (fun w' kw _ => ⟨(((Kept.refl wA).drew.trans kw).alloc _ _),HA.step (((Kept.refl wA).drew.trans kw).alloc _ _)⟩) (⟨(Kept.refl wA).drew,HA.step (Kept.refl wA).drew⟩) ?_
  ·intro done cc rest hd xs w' K kw hs hK
   rcases calls2 hd with ⟨rfl,rfl⟩ | ⟨rfl,rfl⟩
   ·simp only [putX,putCs,List.foldl_cons,List.foldl_nil,zT] at hK ⊢
    unfold wpOp;simp only [zR];first | (with_reducible refine iteYes ?hcx ?htx; case hcx => kernel_rfl) | rw [if_pos (by rfl)]
    left;go_simp
    (go_at_call 96; refine (y0o _ _ _ _ _ _ _).mono ?_; rintro e w2 ⟨rfl,k2⟩)
    try go_wp2_with fail
    exact hK _ k2 (⟨((Kept.refl wA).drew.trans (kw.trans k2)),HA.step ((Kept.refl wA).drew.trans (kw.trans k2))⟩)
   ·simp only [putX,putCs,List.foldl_cons,List.foldl_nil,zT] at hK ⊢
    unfold wpOp;simp only [zR];first | (with_reducible refine iteYes ?hcx ?htx; case hcx => kernel_rfl) | rw [if_pos (by rfl)]
    left;go_simp
    (go_at_call 96; refine (y0o _ _ _ _ _ _ _).mono ?_; rintro e w2 ⟨rfl,k2⟩)
    try go_wp2_with fail
    exact hK _ k2 (⟨((Kept.refl wA).drew.trans (kw.trans k2)),HA.step ((Kept.refl wA).drew.trans (kw.trans k2))⟩)
  ·intro p hp a' w' K hK
   simp only [zrd,List.not_mem_nil,or_false] at hp;rcases hp with rfl | rfl
   all_goals
    unfold wpOp;simp only [zR];first | (with_reducible refine iteYes ?hcx ?htx; case hcx => kernel_rfl) | rw [if_pos (by rfl)]
    left;go_simp
    exact hK
  ·intro f wz0 hf hinj kz hs
   have hP := hf (10,5) (by simp);have hQ := hf (11,6) (by simp);have n01 : f 5 ≠ f 6 := fun e => by have := hinj (10,5) (by simp) (11,6) (by simp) e; simp at this
   simp only at hP hQ;simp only [setN,putX,putCs,ptrV,List.map_cons,List.map_nil,List.cons_append,List.nil_append,List.foldl_cons,List.foldl_nil,zT];clear hf hinj;generalize f 5 = pp at hP n01 ⊢;generalize f 6 = qq at hQ n01 ⊢;have KZ : Hid (Kept wA wz0) := (Kept.refl wA).drew.trans kz;clear kz hs;have Hpp : Hid (wA.heap.size ≤ pp ∧ wz0.heap[pp]? = some (.cells #[I 0,I 0,I 0] 23)) := hP;clear hP;have Hqq : Hid (wA.heap.size ≤ qq ∧ wz0.heap[qq]? = some (.cells #[I 0,I 0,I 0] 23)) := hQ;clear hQ;have z0 := y08 Hpp.out.2 0; have y0 := y0h Hpp.out.2 0; have z1 := y08 Hpp.out.2 1; have y1 := y0h Hpp.out.2 1; have z2 := y08 Hpp.out.2 2; have y2 := y0h Hpp.out.2 2;simp only [zR] at z0 z1 z2;refine rdW 12 rfl fun K hK => ?_;simp only [zQ];go_simp;refine hK.out _ _ ?_ fun hS0 => ?_
   ·exact ⟨(((KZ.out.setCell (p := Y pp 0) Hpp.out.1 _).setCell (p := Y pp 1) Hpp.out.1 _).setCell (p := Y pp 2) Hpp.out.1 _),HA.step (((KZ.out.setCell (p := Y pp 0) Hpp.out.1 _).setCell (p := Y pp 1) Hpp.out.1 _).setCell (p := Y pp 2) Hpp.out.1 _)⟩
   clear hK K hS0 z0 y0 z1 y1 z2 y2;try simp only [zP]
   have KY : Hid (Kept wA (((wz0.setCell (Y pp 0) (I (sub a3 b0))).setCell (Y pp 1) (I (sub a4 b1))).setCell (Y pp 2) (I (sub a5 b2)))) := (((KZ.out.setCell (p := Y pp 0) Hpp.out.1 _).setCell (p := Y pp 1) Hpp.out.1 _).setCell (p := Y pp 2) Hpp.out.1 _);have Gpp : Hid (wA.heap.size ≤ pp ∧ (((wz0.setCell (Y pp 0) (I (sub a3 b0))).setCell (Y pp 1) (I (sub a4 b1))).setCell (Y pp 2) (I (sub a5 b2))).heap[pp]? = some (.cells #[I (sub a3 b0),I (sub a4 b1),I (sub a5 b2)] 23)) := ⟨Hpp.out.1,(y0d (y0d (y0d Hpp.out.2 _ _) _ _) _ _)⟩;have Gqq : Hid (wA.heap.size ≤ qq ∧ (((wz0.setCell (Y pp 0) (I (sub a3 b0))).setCell (Y pp 1) (I (sub a4 b1))).setCell (Y pp 2) (I (sub a5 b2))).heap[qq]? = some (.cells #[I 0,I 0,I 0] 23)) := ⟨Hqq.out.1,(y0r (y0r (y0r Hqq.out.2 (fun e => n01 e.symm) _ _) (fun e => n01 e.symm) _ _) (fun e => n01 e.symm) _ _)⟩;clear KZ Hpp Hqq;generalize (((wz0.setCell (Y pp 0) (I (sub a3 b0))).setCell (Y pp 1) (I (sub a4 b1))).setCell (Y pp 2) (I (sub a5 b2))) = wz1 at KY Gpp Gqq ⊢;have KZ := KY;have Hpp := Gpp; have Hqq := Gqq;clear KY Gpp Gqq;have z0 := y08 Hqq.out.2 0; have y0 := y0h Hqq.out.2 0; have z1 := y08 Hqq.out.2 1; have y1 := y0h Hqq.out.2 1; have z2 := y08 Hqq.out.2 2; have y2 := y0h Hqq.out.2 2;simp only [zR] at z0 z1 z2;refine rdW 13 rfl fun K hK => ?_;simp only [zQ];go_simp;refine hK.out _ _ ?_ fun hS1 => ?_
   ·exact ⟨(((KZ.out.setCell (p := Y qq 0) Hqq.out.1 _).setCell (p := Y qq 1) Hqq.out.1 _).setCell (p := Y qq 2) Hqq.out.1 _),HA.step (((KZ.out.setCell (p := Y qq 0) Hqq.out.1 _).setCell (p := Y qq 1) Hqq.out.1 _).setCell (p := Y qq 2) Hqq.out.1 _)⟩
   clear hK K hS1 z0 y0 z1 y1 z2 y2;try simp only [zP]
   have KY : Hid (Kept wA (((wz1.setCell (Y qq 0) (I (sub b3 a0))).setCell (Y qq 1) (I (sub b4 a1))).setCell (Y qq 2) (I (sub b5 a2)))) := (((KZ.out.setCell (p := Y qq 0) Hqq.out.1 _).setCell (p := Y qq 1) Hqq.out.1 _).setCell (p := Y qq 2) Hqq.out.1 _);have Gpp : Hid (wA.heap.size ≤ pp ∧ (((wz1.setCell (Y qq 0) (I (sub b3 a0))).setCell (Y qq 1) (I (sub b4 a1))).setCell (Y qq 2) (I (sub b5 a2))).heap[pp]? = some (.cells #[I (sub a3 b0),I (sub a4 b1),I (sub a5 b2)] 23)) := ⟨Hpp.out.1,(y0r (y0r (y0r Hpp.out.2 n01 _ _) n01 _ _) n01 _ _)⟩;have Gqq : Hid (wA.heap.size ≤ qq ∧ (((wz1.setCell (Y qq 0) (I (sub b3 a0))).setCell (Y qq 1) (I (sub b4 a1))).setCell (Y qq 2) (I (sub b5 a2))).heap[qq]? = some (.cells #[I (sub b3 a0),I (sub b4 a1),I (sub b5 a2)] 23)) := ⟨Hqq.out.1,(y0d (y0d (y0d Hqq.out.2 _ _) _ _) _ _)⟩;clear KZ Hpp Hqq;generalize (((wz1.setCell (Y qq 0) (I (sub b3 a0))).setCell (Y qq 1) (I (sub b4 a1))).setCell (Y qq 2) (I (sub b5 a2))) = wz2 at KY Gpp Gqq ⊢;have KZ := KY;have Hpp := Gpp; have Hqq := Gqq;clear KY Gpp Gqq;refine wpAnyH_done (by kernel_rfl) ?_ _;go_wp2_with fail
   go_meet
   case rel => exact ⟨pp,qq,rfl,rfl,KZ.out,y08 Hpp.out.2 0,y08 Hpp.out.2 1,y08 Hpp.out.2 2,y08 Hqq.out.2 0,y08 Hqq.out.2 1,y08 Hqq.out.2 2⟩
 case rest =>
  obtain ⟨p,q,rfl,rfl,kc,x0,x1,x2,y0,y1,y2⟩ := hcut;clear HA;go_wp2_with fail
  refine (yay _ ⟨65536,0,0,sub a3 b0⟩ ⟨-65536,0,0,sub b3 a0⟩ ⟨0,65536,0,sub a4 b1⟩ ⟨0,-65536,0,sub b4 a1⟩ ⟨0,0,65536,sub a5 b2⟩ ⟨0,0,-65536,sub b5 a2⟩ _ (by refine ⟨?_,?_,?_,?_,?_,?_,?_,?_,?_,?_,?_,?_,?_,?_,?_,?_,?_,?_,?_,?_,?_,?_,?_,?_⟩ <;> go_simp)).mono ?_;rintro e w1 ⟨rfl,k1⟩;have hk := (hkA.trans kc).alloc #[] 0;clear hk;have c0 := y00 k1 (later (y00 kc (RC'.out 0 (by omega))) _);have f0 := y01 k1 (laterF (y01 kc (RF'.out 0)) _ _);have c1 := y00 k1 (later (y00 kc (RC'.out 1 (by omega))) _);have f1 := y01 k1 (laterF (y01 kc (RF'.out 1)) _ _);have c2 := y00 k1 (later (y00 kc (RC'.out 2 (by omega))) _);have f2 := y01 k1 (laterF (y01 kc (RF'.out 2)) _ _);have c3 := y00 k1 (later (y00 kc (RC'.out 3 (by omega))) _);have f3 := y01 k1 (laterF (y01 kc (RF'.out 3)) _ _);have hk : Kept w w1 := ((hkA.trans kc).alloc _ _).trans k1;clear k1 x0 x1 x2 y0 y1 y2;generalize hE : pickE ⟨65536,0,0,sub a3 b0⟩ ⟨-65536,0,0,sub b3 a0⟩ ⟨0,65536,0,sub a4 b1⟩ ⟨0,-65536,0,sub b4 a1⟩ ⟨0,0,65536,sub a5 b2⟩ ⟨0,0,-65536,sub b5 a2⟩ 5 = E;have HE : Aside _ := hE;clear hE;go_wp2
  obtain ⟨z0,z1,z2,z3⟩ := yfv (v0 := I E.x) (v1 := I E.y) (v2 := I E.z) (v3 := I E.d) c0 c1 c2 c3;exact bodyPost_ret (v := .agg #[I E.x,I E.y,I E.z,I E.d]) (by simp [results,Tryz.results138,go_sem,z0,z1,z2,z3]) rfl ⟨by rw [← HE.out]; rfl,y31 hk (by omega) _ _ _ _⟩
structure T where
 x : Int
 y : Int
 z : Int
 d : Int
 ok : Bool
variable {t : T}
def noT : T := ⟨0,0,0,0,false⟩
def unitT (x y z d : Int) : T := ⟨unitPart (long x y z) 0 x,unitPart (long x y z) 65536 y,unitPart (long x y z) 0 z,d,true⟩
def reachT (s x y z : Int) : T := if sub s (long x y z) ≤ 0 then noT else unitT x y z (sub s (long x y z))
theorem yjg (h : sub s (long x y z) ≤ 0) : reachT s x y z = noT := by unfold reachT; rw [if_pos h]
theorem yip (h : ¬ sub s (long x y z) ≤ 0) : reachT s x y z = unitT x y z (sub s (long x y z)) := by unfold reachT; rw [if_neg h]
theorem y2h (s x y z : Int) (w : World) : Calls Tryz.prog 94 #[I s,.agg #[I x,I y,I z]] w fun e w' => e = .returned (.tuple #[.agg #[I ((reachT s x y z).x),I ((reachT s x y z).y),I ((reachT s x y z).z)],I ((reachT s x y z).d),.bool (reachT s x y z).ok]) ∧ Kept w w' := by
 by_cases h : sub s (long x y z) ≤ 0
 ·have hd : decide (sub s (long x y z) ≤ 0) = true := decide_eq_true h
  rw [yjg h];clear h;go_enter Tryz.func94,Tryz.ntmps94
  go_wp2_with fail
  refine (y3e _ _ _ _).mono ?_; rintro e w1 ⟨rfl,k1⟩;go_wp2_with fail
  refine (y6a _ _ _).mono ?_; rintro e w2 ⟨rfl,k2⟩;have c0 : w2.cell? (Y (w.heap.size + 1) 0) = some (I 0) := y00 k2 (y00 k1 (by go_simp));have f0 : w2.frozen? (Y (w.heap.size + 1) 0) = false := y01 k2 (y01 k1 (by go_simp));have c1 : w2.cell? (Y (w.heap.size + 1) 1) = some (I 0) := y00 k2 (y00 k1 (by go_simp));have f1 : w2.frozen? (Y (w.heap.size + 1) 1) = false := y01 k2 (y01 k1 (by go_simp));have c2 : w2.cell? (Y (w.heap.size + 1) 2) = some (I 0) := y00 k2 (y00 k1 (by go_simp));have f2 : w2.frozen? (Y (w.heap.size + 1) 2) = false := y01 k2 (y01 k1 (by go_simp));go_wp2
  obtain ⟨e0,e1,e2⟩ := y0b (v0 := I 0) (v1 := I 0) (v2 := I 0) c0 c1 c2;exact bodyPost_ret (v := .tuple #[.agg #[I 0,I 0,I 0],I 0,.bool false]) (by simp [results,Tryz.results94,go_sem,e0,e1,e2]) rfl ⟨rfl,y07 (((((Kept.refl w).alloc _ _).alloc _ _).trans k1).trans k2) (by omega) _ _ _⟩
 ·have hd : decide (sub s (long x y z) ≤ 0) = false := decide_eq_false h
  rw [yip h];clear h;go_enter Tryz.func94,Tryz.ntmps94
  go_wp2_with fail
  refine (y3e _ _ _ _).mono ?_; rintro e w1 ⟨rfl,k1⟩;go_wp2_with fail
  refine (y6a _ _ _).mono ?_; rintro e w2 ⟨rfl,k2⟩;have l0 : w2.cell? (Y w.heap.size 0) = some (I x) := y00 k2 (y00 k1 (by go_simp));have l1 : w2.cell? (Y w.heap.size 1) = some (I y) := y00 k2 (y00 k1 (by go_simp));have l2 : w2.cell? (Y w.heap.size 2) = some (I z) := y00 k2 (y00 k1 (by go_simp));go_wp2_with fail
  refine (y9v _ _ _ _).mono ?_; rintro e w3 ⟨rfl,k3⟩;have c0 : w3.cell? (Y (w.heap.size + 1) 0) = some (I 0) := y00 k3 (y00 k2 (y00 k1 (by go_simp)));have f0 : w3.frozen? (Y (w.heap.size + 1) 0) = false := y01 k3 (y01 k2 (y01 k1 (by go_simp)));have c1 : w3.cell? (Y (w.heap.size + 1) 1) = some (I 0) := y00 k3 (y00 k2 (y00 k1 (by go_simp)));have f1 : w3.frozen? (Y (w.heap.size + 1) 1) = false := y01 k3 (y01 k2 (y01 k1 (by go_simp)));have c2 : w3.cell? (Y (w.heap.size + 1) 2) = some (I 0) := y00 k3 (y00 k2 (y00 k1 (by go_simp)));have f2 : w3.frozen? (Y (w.heap.size + 1) 2) = false := y01 k3 (y01 k2 (y01 k1 (by go_simp)));clear l0 l1 l2;go_wp2
  obtain ⟨e0,e1,e2⟩ := y0b (v0 := I (unitPart (long x y z) 0 x)) (v1 := I (unitPart (long x y z) 65536 y)) (v2 := I (unitPart (long x y z) 0 z)) c0 c1 c2;exact bodyPost_ret (v := .tuple #[.agg #[I (unitPart (long x y z) 0 x),I (unitPart (long x y z) 65536 y),I (unitPart (long x y z) 0 z)],I (sub s (long x y z)),.bool true]) (by simp [results,Tryz.results94,go_sem,e0,e1,e2]) rfl ⟨rfl,y07 ((((((Kept.refl w).alloc _ _).alloc _ _).trans k1).trans k2).trans k3) (by omega) _ _ _⟩
def boxesT (a0 a1 a2 a3 a4 a5 b0 b1 b2 b3 b4 b5 : Int) : T := if meetB a0 a1 a2 a3 a4 a5 b0 b1 b2 b3 b4 b5 = true ∧ 0 < (outE a0 a1 a2 a3 a4 a5 b0 b1 b2 b3 b4 b5).d then ⟨(outE a0 a1 a2 a3 a4 a5 b0 b1 b2 b3 b4 b5).x,(outE a0 a1 a2 a3 a4 a5 b0 b1 b2 b3 b4 b5).y,(outE a0 a1 a2 a3 a4 a5 b0 b1 b2 b3 b4 b5).z,(outE a0 a1 a2 a3 a4 a5 b0 b1 b2 b3 b4 b5).d,true⟩ else noT
theorem yea {b0 b1 : Int} (h : ¬ (meetB a0 a1 a2 a3 a4 a5 b0 b1 b2 b3 b4 b5 = true ∧ 0 < (outE a0 a1 a2 a3 a4 a5 b0 b1 b2 b3 b4 b5).d)) : boxesT a0 a1 a2 a3 a4 a5 b0 b1 b2 b3 b4 b5 = noT := by unfold boxesT; rw [if_neg h]
theorem yi4 {b0 b1 : Int} (h : meetB a0 a1 a2 a3 a4 a5 b0 b1 b2 b3 b4 b5 = true ∧ 0 < (outE a0 a1 a2 a3 a4 a5 b0 b1 b2 b3 b4 b5).d) : boxesT a0 a1 a2 a3 a4 a5 b0 b1 b2 b3 b4 b5 = ⟨(outE a0 a1 a2 a3 a4 a5 b0 b1 b2 b3 b4 b5).x,(outE a0 a1 a2 a3 a4 a5 b0 b1 b2 b3 b4 b5).y,(outE a0 a1 a2 a3 a4 a5 b0 b1 b2 b3 b4 b5).z,(outE a0 a1 a2 a3 a4 a5 b0 b1 b2 b3 b4 b5).d,true⟩ := by unfold boxesT; rw [if_pos h]
def G4o3 (w : World) (b0 b1 : Nat) (v0 v1 v2 v3 : Value) (w' : World) : Prop :=
 Kept w w' ∧
 w'.cell? ⟨b0,0,none⟩ = some v0 ∧
 w'.cell? ⟨b0,1,none⟩ = some v1 ∧
 w'.cell? ⟨b0,2,none⟩ = some v2 ∧
 w'.cell? ⟨b0,3,none⟩ = some v3 ∧
 w'.cell? ⟨b1,0,none⟩ = some (cellV w' ⟨b1,0,none⟩) ∧
 w'.cell? ⟨b1,1,none⟩ = some (cellV w' ⟨b1,1,none⟩) ∧
 w'.cell? ⟨b1,2,none⟩ = some (cellV w' ⟨b1,2,none⟩) ∧
 w'.frozen? ⟨b1,0,none⟩ = false ∧
 w'.frozen? ⟨b1,1,none⟩ = false ∧
 w'.frozen? ⟨b1,2,none⟩ = false
theorem G4o3.step (k : Kept w1 w2) (h : G4o3 w b0 b1 v0 v1 v2 v3 w1) : G4o3 w b0 b1 v0 v1 v2 v3 w2 := by
 obtain ⟨h0,h1,h2,h3,h4,h5,h6,h7,h8,h9,h10⟩ := h;exact ⟨h0.trans k,y00 k h1,y00 k h2,y00 k h3,y00 k h4,y06 k h5,y06 k h6,y06 k h7,y01 k h8,y01 k h9,y01 k h10⟩
theorem G4o3.drew {w w1 : World} {b0 b1 : Nat} {v0 v1 v2 v3 : Value} (h : G4o3 w b0 b1 v0 v1 v2 v3 w1) : G4o3 w b0 b1 v0 v1 v2 v3 w1.drew := h.step kd
theorem G4o3.put (i : Nat) (v : Value) (ho : w.heap.size ≤ b1) (n0 : b0 ≠ b1) (h : G4o3 w b0 b1 v0 v1 v2 v3 w1) : G4o3 w b0 b1 v0 v1 v2 v3 (w1.setCell (Y b1 i) v) := by
 obtain ⟨h0,h1,h2,h3,h4,h5,h6,h7,h8,h9,h10⟩ := h;exact ⟨h0.setCell (p := Y b1 i) ho v,(zf n0).trans h1,(zf n0).trans h2,(zf n0).trans h3,(zf n0).trans h4,y04 h5,y04 h6,y04 h7,(zrb _ _ _ _).trans h8,(zrb _ _ _ _).trans h9,(zrb _ _ _ _).trans h10⟩
theorem y7f (a0 a1 a2 a3 a4 a5 b0 b1 b2 b3 b4 b5 : Int) (w : World) : Calls Tryz.prog 98 #[.agg #[I a0,I a1,I a2,I a3,I a4,I a5],.agg #[I b0,I b1,I b2,I b3,I b4,I b5]] w fun e w' => e = .returned (.tuple #[.agg #[I ((boxesT a0 a1 a2 a3 a4 a5 b0 b1 b2 b3 b4 b5).x),I ((boxesT a0 a1 a2 a3 a4 a5 b0 b1 b2 b3 b4 b5).y),I ((boxesT a0 a1 a2 a3 a4 a5 b0 b1 b2 b3 b4 b5).z)],I ((boxesT a0 a1 a2 a3 a4 a5 b0 b1 b2 b3 b4 b5).d),.bool (boxesT a0 a1 a2 a3 a4 a5 b0 b1 b2 b3 b4 b5).ok]) ∧ Kept w w' := by
 cases hm : meetB a0 a1 a2 a3 a4 a5 b0 b1 b2 b3 b4 b5 with
 | false =>
  rw [yea (by rw [hm]; simp)];have hE : True := trivial;go_enter Tryz.func98,Tryz.ntmps98
  go_wp2_with fail
  refine (y67 _ _ _ _ _ _ _ _ _ _ _ _ _).mono ?_; rintro e w1 ⟨rfl,k1⟩;have HA : G66At w.heap.size (w.heap.size + 1) (I a0) (I a1) (I a2) (I a3) (I a4) (I a5) (I b0) (I b1) (I b2) (I b3) (I b4) (I b5) w1 := G66At.step k1 (by refine ⟨?_,?_,?_,?_,?_,?_,?_,?_,?_,?_,?_,?_⟩ <;> go_simp);have rc0 : w1.cell? (Y (w.heap.size + 1 + 1) 0) = some (I 0) := y00 k1 (by go_simp);have rf0 : w1.frozen? (Y (w.heap.size + 1 + 1) 0) = false := y01 k1 (by go_simp);have rc1 : w1.cell? (Y (w.heap.size + 1 + 1) 1) = some (I 0) := y00 k1 (by go_simp);have rf1 : w1.frozen? (Y (w.heap.size + 1 + 1) 1) = false := y01 k1 (by go_simp);have rc2 : w1.cell? (Y (w.heap.size + 1 + 1) 2) = some (I 0) := y00 k1 (by go_simp);have rf2 : w1.frozen? (Y (w.heap.size + 1 + 1) 2) = false := y01 k1 (by go_simp);have hk1 : Kept w w1 := ((((Kept.refl w).alloc _ _).alloc _ _).alloc _ _).trans k1;have hlt : w.heap.size + 1 + 1 + 1 ≤ w1.heap.size := by have := k1.below.size; simp at this; omega
  generalize hEE : outE a0 a1 a2 a3 a4 a5 b0 b1 b2 b3 b4 b5 = E at hE ⊢;have HE : Aside (outE a0 a1 a2 a3 a4 a5 b0 b1 b2 b3 b4 b5 = E) := hEE;clear k1 hEE;obtain ⟨t0,t1,t2,t3,t4,t5,t6,t7,t8,t9,t10,t11⟩ := HA;have l0 := later t0;have l1 := later t1;have l2 := later t2;have l3 := later t3;have l4 := later t4;have l5 := later t5;have l6 := later t6;have l7 := later t7;have l8 := later t8;have l9 := later t9;have l10 := later t10;have l11 := later t11;clear t0 t1 t2 t3 t4 t5 t6 t7 t8 t9 t10 t11;go_wp2_with fail
  refine (y17 _ _ _ _ _ _ _ _ _ _ _ _ _).mono ?_; rintro e w2 ⟨rfl,k2⟩;clear l0 l1 l2 l3 l4 l5 l6 l7 l8 l9 l10 l11;have c0 := y00 k2 (later rc0 _);have f0 := y01 k2 (laterF rf0 _ _);have c1 := y00 k2 (later rc1 _);have f1 := y01 k2 (laterF rf1 _ _);have c2 := y00 k2 (later rc2 _);have f2 := y01 k2 (laterF rf2 _ _);have m0 : w2.cell? (Y w1.heap.size 0) = some (I E.x) := y00 k2 (by go_simp);have m1 : w2.cell? (Y w1.heap.size 1) = some (I E.y) := y00 k2 (by go_simp);have m2 : w2.cell? (Y w1.heap.size 2) = some (I E.z) := y00 k2 (by go_simp);have m3 : w2.cell? (Y w1.heap.size 3) = some (I E.d) := y00 k2 (by go_simp);have hk2 : Kept w w2 := (hk1.alloc _ _).trans k2;clear k2 rc0 rc1 rc2 rf0 rf1 rf2 hk1;go_wp2
  obtain ⟨e0,e1,e2⟩ := y0b (v0 := I 0) (v1 := I 0) (v2 := I 0) c0 c1 c2;exact bodyPost_ret (v := .tuple #[.agg #[I 0,I 0,I 0],I 0,.bool false]) (by simp [results,Tryz.results98,go_sem,e0,e1,e2]) rfl ⟨rfl,y07 hk2 (by omega) _ _ _⟩
 | true =>
  cases hd : decide ((outE a0 a1 a2 a3 a4 a5 b0 b1 b2 b3 b4 b5).d ≤ 0) with
  | true =>
   rw [yea (by have := of_decide_eq_true hd; omega)];have hE := hd;clear hd;go_enter Tryz.func98,Tryz.ntmps98
   go_wp2_with fail
   refine (y67 _ _ _ _ _ _ _ _ _ _ _ _ _).mono ?_; rintro e w1 ⟨rfl,k1⟩;have HA : G66At w.heap.size (w.heap.size + 1) (I a0) (I a1) (I a2) (I a3) (I a4) (I a5) (I b0) (I b1) (I b2) (I b3) (I b4) (I b5) w1 := G66At.step k1 (by refine ⟨?_,?_,?_,?_,?_,?_,?_,?_,?_,?_,?_,?_⟩ <;> go_simp);have rc0 : w1.cell? (Y (w.heap.size + 1 + 1) 0) = some (I 0) := y00 k1 (by go_simp);have rf0 : w1.frozen? (Y (w.heap.size + 1 + 1) 0) = false := y01 k1 (by go_simp);have rc1 : w1.cell? (Y (w.heap.size + 1 + 1) 1) = some (I 0) := y00 k1 (by go_simp);have rf1 : w1.frozen? (Y (w.heap.size + 1 + 1) 1) = false := y01 k1 (by go_simp);have rc2 : w1.cell? (Y (w.heap.size + 1 + 1) 2) = some (I 0) := y00 k1 (by go_simp);have rf2 : w1.frozen? (Y (w.heap.size + 1 + 1) 2) = false := y01 k1 (by go_simp);have hk1 : Kept w w1 := ((((Kept.refl w).alloc _ _).alloc _ _).alloc _ _).trans k1;have hlt : w.heap.size + 1 + 1 + 1 ≤ w1.heap.size := by have := k1.below.size; simp at this; omega
   generalize hEE : outE a0 a1 a2 a3 a4 a5 b0 b1 b2 b3 b4 b5 = E at hE ⊢;have HE : Aside (outE a0 a1 a2 a3 a4 a5 b0 b1 b2 b3 b4 b5 = E) := hEE;clear k1 hEE;obtain ⟨t0,t1,t2,t3,t4,t5,t6,t7,t8,t9,t10,t11⟩ := HA;have l0 := later t0;have l1 := later t1;have l2 := later t2;have l3 := later t3;have l4 := later t4;have l5 := later t5;have l6 := later t6;have l7 := later t7;have l8 := later t8;have l9 := later t9;have l10 := later t10;have l11 := later t11;clear t0 t1 t2 t3 t4 t5 t6 t7 t8 t9 t10 t11;go_wp2_with fail
   refine (y17 _ _ _ _ _ _ _ _ _ _ _ _ _).mono ?_; rintro e w2 ⟨rfl,k2⟩;clear l0 l1 l2 l3 l4 l5 l6 l7 l8 l9 l10 l11;have c0 := y00 k2 (later rc0 _);have f0 := y01 k2 (laterF rf0 _ _);have c1 := y00 k2 (later rc1 _);have f1 := y01 k2 (laterF rf1 _ _);have c2 := y00 k2 (later rc2 _);have f2 := y01 k2 (laterF rf2 _ _);have m0 : w2.cell? (Y w1.heap.size 0) = some (I E.x) := y00 k2 (by go_simp);have m1 : w2.cell? (Y w1.heap.size 1) = some (I E.y) := y00 k2 (by go_simp);have m2 : w2.cell? (Y w1.heap.size 2) = some (I E.z) := y00 k2 (by go_simp);have m3 : w2.cell? (Y w1.heap.size 3) = some (I E.d) := y00 k2 (by go_simp);have hk2 : Kept w w2 := (hk1.alloc _ _).trans k2;clear k2 rc0 rc1 rc2 rf0 rf1 rf2 hk1;go_wp2
   obtain ⟨e0,e1,e2⟩ := y0b (v0 := I 0) (v1 := I 0) (v2 := I 0) c0 c1 c2;exact bodyPost_ret (v := .tuple #[.agg #[I 0,I 0,I 0],I 0,.bool false]) (by simp [results,Tryz.results98,go_sem,e0,e1,e2]) rfl ⟨rfl,y07 hk2 (by omega) _ _ _⟩
  | false =>
   rw [yi4 ⟨hm,by have := of_decide_eq_false hd; omega⟩];have hE := hd;clear hd;go_enter Tryz.func98,Tryz.ntmps98
   go_wp2_with fail
   refine (y67 _ _ _ _ _ _ _ _ _ _ _ _ _).mono ?_; rintro e w1 ⟨rfl,k1⟩;have HA : G66At w.heap.size (w.heap.size + 1) (I a0) (I a1) (I a2) (I a3) (I a4) (I a5) (I b0) (I b1) (I b2) (I b3) (I b4) (I b5) w1 := G66At.step k1 (by refine ⟨?_,?_,?_,?_,?_,?_,?_,?_,?_,?_,?_,?_⟩ <;> go_simp);have rc0 : w1.cell? (Y (w.heap.size + 1 + 1) 0) = some (I 0) := y00 k1 (by go_simp);have rf0 : w1.frozen? (Y (w.heap.size + 1 + 1) 0) = false := y01 k1 (by go_simp);have rc1 : w1.cell? (Y (w.heap.size + 1 + 1) 1) = some (I 0) := y00 k1 (by go_simp);have rf1 : w1.frozen? (Y (w.heap.size + 1 + 1) 1) = false := y01 k1 (by go_simp);have rc2 : w1.cell? (Y (w.heap.size + 1 + 1) 2) = some (I 0) := y00 k1 (by go_simp);have rf2 : w1.frozen? (Y (w.heap.size + 1 + 1) 2) = false := y01 k1 (by go_simp);have hk1 : Kept w w1 := ((((Kept.refl w).alloc _ _).alloc _ _).alloc _ _).trans k1;have hlt : w.heap.size + 1 + 1 + 1 ≤ w1.heap.size := by have := k1.below.size; simp at this; omega
   generalize hEE : outE a0 a1 a2 a3 a4 a5 b0 b1 b2 b3 b4 b5 = E at hE ⊢;have HE : Aside (outE a0 a1 a2 a3 a4 a5 b0 b1 b2 b3 b4 b5 = E) := hEE;clear k1 hEE;obtain ⟨t0,t1,t2,t3,t4,t5,t6,t7,t8,t9,t10,t11⟩ := HA;have l0 := later t0;have l1 := later t1;have l2 := later t2;have l3 := later t3;have l4 := later t4;have l5 := later t5;have l6 := later t6;have l7 := later t7;have l8 := later t8;have l9 := later t9;have l10 := later t10;have l11 := later t11;clear t0 t1 t2 t3 t4 t5 t6 t7 t8 t9 t10 t11;go_wp2_with fail
   refine (y17 _ _ _ _ _ _ _ _ _ _ _ _ _).mono ?_; rintro e w2 ⟨rfl,k2⟩;clear l0 l1 l2 l3 l4 l5 l6 l7 l8 l9 l10 l11;have c0 := y00 k2 (later rc0 _);have f0 := y01 k2 (laterF rf0 _ _);have c1 := y00 k2 (later rc1 _);have f1 := y01 k2 (laterF rf1 _ _);have c2 := y00 k2 (later rc2 _);have f2 := y01 k2 (laterF rf2 _ _);have m0 : w2.cell? (Y w1.heap.size 0) = some (I E.x) := y00 k2 (by go_simp);have m1 : w2.cell? (Y w1.heap.size 1) = some (I E.y) := y00 k2 (by go_simp);have m2 : w2.cell? (Y w1.heap.size 2) = some (I E.z) := y00 k2 (by go_simp);have m3 : w2.cell? (Y w1.heap.size 3) = some (I E.d) := y00 k2 (by go_simp);have hk2 : Kept w w2 := (hk1.alloc _ _).trans k2;clear k2 rc0 rc1 rc2 rf0 rf1 rf2 hk1;go_wp2
   refine wp_region_held_drew (S := (fun w' => Kept w w' ∧ Zc w' w1.heap.size 0 E.x ∧ Zc w' w1.heap.size 1 E.y ∧ Zc w' w1.heap.size 2 E.z ∧ Zc w' w1.heap.size 3 E.d ∧ w'.cell? (Y (w.heap.size + 1 + 1) 0) = some (cellV w' (Y (w.heap.size + 1 + 1) 0)) ∧ w'.cell? (Y (w.heap.size + 1 + 1) 1) = some (cellV w' (Y (w.heap.size + 1 + 1) 1)) ∧ w'.cell? (Y (w.heap.size + 1 + 1) 2) = some (cellV w' (Y (w.heap.size + 1 + 1) 2)) ∧ w'.frozen? (Y (w.heap.size + 1 + 1) 0) = false ∧ w'.frozen? (Y (w.heap.size + 1 + 1) 1) = false ∧ w'.frozen? (Y (w.heap.size + 1 + 1) 2) = false)) (by kernel_rfl) ?_ (fun hJ1 => ?_)
   ·exact G4o3.drew ⟨hk2,m0,m1,m2,m3,y02 c0,y02 c1,y02 c2,f0,f1,f2⟩
   refine tkU 0 (h:=tkU 1 (h:=tkU 2 (h:=tkV 3 ?_)));try simp only [zP]
   refine rdW 4 rfl fun K hK => ?_;simp only [zQ];go_simp;refine hK.out _ _ ?_ fun hJ2 => ?_
   ·exact (G4o3.put 2 _ (by omega) (by omega) (G4o3.put 1 _ (by omega) (by omega) (G4o3.put 0 _ (by omega) (by omega) hJ1)))
   clear hK K;try simp only [zP]
   refine tkU 5 (h:=tkV 6 ?_);try simp only [zP]
   refine wpAnyH_done (by kernel_rfl) ?_ _;go_wp2
   have hk := hJ2.1;obtain ⟨e0,e1,e2⟩ := y0b (v0 := I E.x) (v1 := I E.y) (v2 := I E.z) c0 c1 c2;exact bodyPost_ret (v := .tuple #[.agg #[I E.x,I E.y,I E.z],I E.d,.bool true]) (by simp [results,Tryz.results98,go_sem,e0,e1,e2]) rfl ⟨by rw [HE.out],hk⟩
def G36x (w : World) (b0 b1 : Nat) (v0 v1 v2 v3 v4 v5 v6 v7 v8 : Value) (w' : World) : Prop :=
 Kept w w' ∧
 w'.cell? ⟨b0,0,none⟩ = some v0 ∧
 w'.cell? ⟨b0,1,none⟩ = some v1 ∧
 w'.cell? ⟨b0,2,none⟩ = some v2 ∧
 w'.cell? ⟨b1,0,none⟩ = some v3 ∧
 w'.cell? ⟨b1,1,none⟩ = some v4 ∧
 w'.cell? ⟨b1,2,none⟩ = some v5 ∧
 w'.cell? ⟨b1,3,none⟩ = some v6 ∧
 w'.cell? ⟨b1,4,none⟩ = some v7 ∧
 w'.cell? ⟨b1,5,none⟩ = some v8
theorem G36x.step (k : Kept w1 w2) (h : G36x w b0 b1 v0 v1 v2 v3 v4 v5 v6 v7 v8 w1) : G36x w b0 b1 v0 v1 v2 v3 v4 v5 v6 v7 v8 w2 := by
 obtain ⟨h0,h1,h2,h3,h4,h5,h6,h7,h8,h9⟩ := h;exact ⟨h0.trans k,y00 k h1,y00 k h2,y00 k h3,y00 k h4,y00 k h5,y00 k h6,y00 k h7,y00 k h8,y00 k h9⟩
theorem G36x.drew {w w1 : World} {b0 b1 : Nat} {v0 v1 v2 v3 v4 v5 v6 v7 v8 : Value} (h : G36x w b0 b1 v0 v1 v2 v3 v4 v5 v6 v7 v8 w1) : G36x w b0 b1 v0 v1 v2 v3 v4 v5 v6 v7 v8 w1.drew := h.step kd
def G36xAt (b0 b1 : Nat) (v0 v1 v2 v3 v4 v5 v6 v7 v8 : Value) (w' : World) : Prop :=
 w'.cell? ⟨b0,0,none⟩ = some v0 ∧
 w'.cell? ⟨b0,1,none⟩ = some v1 ∧
 w'.cell? ⟨b0,2,none⟩ = some v2 ∧
 w'.cell? ⟨b1,0,none⟩ = some v3 ∧
 w'.cell? ⟨b1,1,none⟩ = some v4 ∧
 w'.cell? ⟨b1,2,none⟩ = some v5 ∧
 w'.cell? ⟨b1,3,none⟩ = some v6 ∧
 w'.cell? ⟨b1,4,none⟩ = some v7 ∧
 w'.cell? ⟨b1,5,none⟩ = some v8
theorem G36xAt.step (k : Kept w1 w2) (h : G36xAt b0 b1 v0 v1 v2 v3 v4 v5 v6 v7 v8 w1) : G36xAt b0 b1 v0 v1 v2 v3 v4 v5 v6 v7 v8 w2 := by
 obtain ⟨h1,h2,h3,h4,h5,h6,h7,h8,h9⟩ := h;exact ⟨y00 k h1,y00 k h2,y00 k h3,y00 k h4,y00 k h5,y00 k h6,y00 k h7,y00 k h8,y00 k h9⟩
theorem G36xAt.start (h : G36xAt b0 b1 v0 v1 v2 v3 v4 v5 v6 v7 v8 w1) : G36x w1 b0 b1 v0 v1 v2 v3 v4 v5 v6 v7 v8 w1.drew := ⟨kd,h.step kd⟩
def gap (p l h : Int) : Int := sub (near p l h) p
def inT (s : Int) (E : Ex) : T := ⟨E.x,E.y,E.z,add E.d s,true⟩
def ballV (s v0 v1 v2 : Int) (t : T) : T := if v0 = 0 ∧ v1 = 0 ∧ v2 = 0 then t else reachT s v0 v1 v2
theorem ygw {v0 v1 v2 : Int} (h : v0 = 0 ∧ v1 = 0 ∧ v2 = 0) : ballV s v0 v1 v2 t = t := by unfold ballV; rw [if_pos h]
theorem y5v {v0 v1 v2 : Int} (h : ¬ (v0 = 0 ∧ v1 = 0 ∧ v2 = 0)) : ballV s v0 v1 v2 t = reachT s v0 v1 v2 := by unfold ballV; rw [if_neg h]
def ballT (s p0 p1 p2 b0 b1 b2 b3 b4 b5 : Int) : T := ballV s (gap p0 b0 b3) (gap p1 b1 b4) (gap p2 b2 b5) (inT s (outE p0 p1 p2 p0 p1 p2 b0 b1 b2 b3 b4 b5))
theorem y1r (s p0 p1 p2 b0 b1 b2 b3 b4 b5 : Int) (w : World) :
  Calls Tryz.prog 97 #[I s,.agg #[I p0,I p1,I p2],.agg #[I b0,I b1,I b2,I b3,I b4,I b5]] w fun e w' => e = .returned (.tuple #[.agg #[I ((ballT s p0 p1 p2 b0 b1 b2 b3 b4 b5).x),I ((ballT s p0 p1 p2 b0 b1 b2 b3 b4 b5).y),I ((ballT s p0 p1 p2 b0 b1 b2 b3 b4 b5).z)],I ((ballT s p0 p1 p2 b0 b1 b2 b3 b4 b5).d),.bool (ballT s p0 p1 p2 b0 b1 b2 b3 b4 b5).ok]) ∧ Kept w w' := by
 go_enter Tryz.func97,Tryz.ntmps97
 go_wp2
 have HA : G36xAt w.heap.size (w.heap.size + 1) (I p0) (I p1) (I p2) (I b0) (I b1) (I b2) (I b3) (I b4) (I b5) (((w.alloc (.cells #[I p0,I p1,I p2] 23)).alloc (.cells #[I b0,I b1,I b2,I b3,I b4,I b5] 57)).alloc (.cells #[I 0,I 0,I 0] 23)) := by
  refine ⟨?_,?_,?_,?_,?_,?_,?_,?_,?_⟩ <;> go_simp
 have hkA : Kept w (((w.alloc (.cells #[I p0,I p1,I p2] 23)).alloc (.cells #[I b0,I b1,I b2,I b3,I b4,I b5] 57)).alloc (.cells #[I 0,I 0,I 0] 23)) := (((Kept.refl w).alloc _ _).alloc _ _).alloc _ _
 have RC : ∀ i,i < 3 → (((w.alloc (.cells #[I p0,I p1,I p2] 23)).alloc (.cells #[I b0,I b1,I b2,I b3,I b4,I b5] 57)).alloc (.cells #[I 0,I 0,I 0] 23)).cell? (Y (w.heap.size + 1 + 1) i) = some (I 0) := by
  intro i hi;obtain rfl | rfl | rfl : i = 0 ∨ i = 1 ∨ i = 2 := by omega
  all_goals go_simp
 have RF : ∀ i,(((w.alloc (.cells #[I p0,I p1,I p2] 23)).alloc (.cells #[I b0,I b1,I b2,I b3,I b4,I b5] 57)).alloc (.cells #[I 0,I 0,I 0] 23)).frozen? (Y (w.heap.size + 1 + 1) i) = false := by intro i; go_simp
 generalize (((w.alloc (.cells #[I p0,I p1,I p2] 23)).alloc (.cells #[I b0,I b1,I b2,I b3,I b4,I b5] 57)).alloc (.cells #[I 0,I 0,I 0] 23)) = wA at HA hkA RC RF ⊢;have RC' : Aside _ := RC;have RF' : Aside _ := RF;clear RC RF;go_cut [9] from 10 (fun s9 wc => ∃ p,s9 = .pointer (some (Y p 0)) ∧ Kept wA wc ∧ wc.cell? (Y p 0) = some (I (gap p0 b0 b3)) ∧ wc.cell? (Y p 1) = some (I (gap p1 b1 b4)) ∧ wc.cell? (Y p 2) = some (I (gap p2 b2 b5)))
 case first =>
  refine wp_region_held_drew (S := (fun w' => Kept wA w' ∧ Zc w' w.heap.size 0 p0 ∧ Zc w' w.heap.size 1 p1 ∧ Zc w' w.heap.size 2 p2 ∧ Zc w' (w.heap.size + 1) 0 b0 ∧ Zc w' (w.heap.size + 1) 1 b1 ∧ Zc w' (w.heap.size + 1) 2 b2 ∧ Zc w' (w.heap.size + 1) 3 b3 ∧ Zc w' (w.heap.size + 1) 4 b4 ∧ Zc w' (w.heap.size + 1) 5 b5)) (by kernel_rfl) ?_ (fun hH0 => ?_)
  ·exact ⟨kd,HA.step kd⟩
  refine tkU 0 (h:=tkU 1 (h:=tkV 3 ?_));try simp only [zP]
  refine y22 [⟨2,13,.agg #[I (near p0 b0 b3),I (near p1 b1 b4),I (near p2 b2 b5)]⟩,⟨4,15,.agg #[I (gap p0 b0 b3),I (gap p1 b1 b4),I (gap p2 b2 b5)]⟩] [(5,9)] #[I 0,I 0,I 0] 23 1 (by kernel_rfl) (by decide) (by simp) ?_ ?_ (fun w' kw _ => ⟨(((Kept.refl wA).drew.trans kw).alloc _ _),HA.step (((Kept.refl wA).drew.trans kw).alloc _ _)⟩) (⟨(Kept.refl wA).drew,HA.step (Kept.refl wA).drew⟩) ?_
  ·intro done cc rest hd xs w' K kw hs hK
   rcases calls2 hd with ⟨rfl,rfl⟩ | ⟨rfl,rfl⟩
   ·simp only [putX,putCs,List.foldl_cons,List.foldl_nil,zT] at hK ⊢
    unfold wpOp;simp only [zR];first | (with_reducible refine iteYes ?hcx ?htx; case hcx => kernel_rfl) | rw [if_pos (by rfl)]
    left;go_simp
    (go_at_call 137; refine (yfk _ _ _ _ _ _ _ _ _ _).mono ?_; rintro e w2 ⟨rfl,k2⟩)
    try go_wp2_with fail
    exact hK _ k2 (⟨((Kept.refl wA).drew.trans (kw.trans k2)),HA.step ((Kept.refl wA).drew.trans (kw.trans k2))⟩)
   ·simp only [putX,putCs,List.foldl_cons,List.foldl_nil,zT] at hK ⊢
    unfold wpOp;simp only [zR];first | (with_reducible refine iteYes ?hcx ?htx; case hcx => kernel_rfl) | rw [if_pos (by rfl)]
    left;go_simp
    (go_at_call 96; refine (y0o _ _ _ _ _ _ _).mono ?_; rintro e w2 ⟨rfl,k2⟩)
    try go_wp2_with fail
    exact hK _ k2 (⟨((Kept.refl wA).drew.trans (kw.trans k2)),HA.step ((Kept.refl wA).drew.trans (kw.trans k2))⟩)
  ·intro p hp a' w' K hK
   simp only [zrd,List.not_mem_nil,or_false] at hp;subst hp
   all_goals
    unfold wpOp;simp only [zR];first | (with_reducible refine iteYes ?hcx ?htx; case hcx => kernel_rfl) | rw [if_pos (by rfl)]
    left;go_simp
    exact hK
  ·intro f wz0 hf hinj kz hs
   have hP := hf (5,9) (by simp);simp only at hP;simp only [setN,putX,putCs,ptrV,List.map_cons,List.map_nil,List.cons_append,List.nil_append,List.foldl_cons,List.foldl_nil,zT];clear hf hinj;generalize f 9 = pp at hP ⊢;have KZ : Hid (Kept wA wz0) := (Kept.refl wA).drew.trans kz;clear kz hs;have Hpp : Hid (wA.heap.size ≤ pp ∧ wz0.heap[pp]? = some (.cells #[I 0,I 0,I 0] 23)) := hP;clear hP;have z0 := y08 Hpp.out.2 0; have y0 := y0h Hpp.out.2 0; have z1 := y08 Hpp.out.2 1; have y1 := y0h Hpp.out.2 1; have z2 := y08 Hpp.out.2 2; have y2 := y0h Hpp.out.2 2;simp only [zR] at z0 z1 z2;refine rdW 6 rfl fun K hK => ?_;simp only [zQ];go_simp;refine hK.out _ _ ?_ fun hS0 => ?_
   ·exact ⟨(((KZ.out.setCell (p := Y pp 0) Hpp.out.1 _).setCell (p := Y pp 1) Hpp.out.1 _).setCell (p := Y pp 2) Hpp.out.1 _),HA.step (((KZ.out.setCell (p := Y pp 0) Hpp.out.1 _).setCell (p := Y pp 1) Hpp.out.1 _).setCell (p := Y pp 2) Hpp.out.1 _)⟩
   clear hK K hS0 z0 y0 z1 y1 z2 y2;try simp only [zP]
   have KY : Hid (Kept wA (((wz0.setCell (Y pp 0) (I (gap p0 b0 b3))).setCell (Y pp 1) (I (gap p1 b1 b4))).setCell (Y pp 2) (I (gap p2 b2 b5)))) := (((KZ.out.setCell (p := Y pp 0) Hpp.out.1 _).setCell (p := Y pp 1) Hpp.out.1 _).setCell (p := Y pp 2) Hpp.out.1 _);have Gpp : Hid (wA.heap.size ≤ pp ∧ (((wz0.setCell (Y pp 0) (I (gap p0 b0 b3))).setCell (Y pp 1) (I (gap p1 b1 b4))).setCell (Y pp 2) (I (gap p2 b2 b5))).heap[pp]? = some (.cells #[I (gap p0 b0 b3),I (gap p1 b1 b4),I (gap p2 b2 b5)] 23)) := ⟨Hpp.out.1,(y0d (y0d (y0d Hpp.out.2 _ _) _ _) _ _)⟩;clear KZ Hpp;generalize (((wz0.setCell (Y pp 0) (I (gap p0 b0 b3))).setCell (Y pp 1) (I (gap p1 b1 b4))).setCell (Y pp 2) (I (gap p2 b2 b5))) = wz1 at KY Gpp ⊢;have KZ := KY;have Hpp := Gpp;clear KY Gpp;refine wpAnyH_done (by kernel_rfl) ?_ _;go_wp2_with fail
   go_meet
   case rel => exact ⟨pp,rfl,KZ.out,y08 Hpp.out.2 0,y08 Hpp.out.2 1,y08 Hpp.out.2 2⟩
 case rest =>
  obtain ⟨p,rfl,kc,x0,x1,x2⟩ := hcut;obtain ⟨t0,t1,t2,t3,t4,t5,t6,t7,t8⟩ := HA.step kc;clear HA;obtain ⟨tt,HT⟩ : ∃ tt,ballT s p0 p1 p2 b0 b1 b2 b3 b4 b5 = tt := ⟨_,rfl⟩;have HTT : Aside (ballT s p0 p1 p2 b0 b1 b2 b3 b4 b5 = tt) := HT;unfold ballT at HT;generalize gap p0 b0 b3 = v0 at x0 HT;generalize gap p1 b1 b4 = v1 at x1 HT;generalize gap p2 b2 b5 = v2 at x2 HT
  cases q0 : (v0 == 0) with
  | false =>
   rw [y5v (by simp only [beq_eq_false_iff_ne,ne_eq] at q0; intro hh; exact q0 hh.1)] at HT;have HT0 : Aside (reachT s v0 v1 v2 = tt) := HT;clear HT;go_wp2_with fail
   refine (y2h _ _ _ _ _).mono ?_; rintro e w1 ⟨rfl,k1⟩;have c0 := y00 k1 (y00 kc (RC'.out 0 (by omega)));have f0 := y01 k1 (y01 kc (RF'.out 0));have c1 := y00 k1 (y00 kc (RC'.out 1 (by omega)));have f1 := y01 k1 (y01 kc (RF'.out 1));have c2 := y00 k1 (y00 kc (RC'.out 2 (by omega)));have f2 := y01 k1 (y01 kc (RF'.out 2));have hk : Kept w w1 := (hkA.trans kc).trans k1;rw [HT0.out];clear k1 x0 x1 x2;go_wp2
   obtain ⟨e0,e1,e2⟩ := y0b (v0 := I tt.x) (v1 := I tt.y) (v2 := I tt.z) c0 c1 c2;exact bodyPost_ret (v := .tuple #[.agg #[I tt.x,I tt.y,I tt.z],I tt.d,.bool tt.ok]) (by simp [results,Tryz.results97,go_sem,e0,e1,e2]) rfl ⟨by rw [HTT.out],y07 hk (by omega) _ _ _⟩
  | true =>
   cases q1 : (v1 == 0) with
   | false =>
    rw [y5v (by simp only [beq_eq_false_iff_ne,ne_eq] at q1; intro hh; exact q1 hh.2.1)] at HT;have HT0 : Aside (reachT s v0 v1 v2 = tt) := HT;clear HT;go_wp2_with fail
    refine (y2h _ _ _ _ _).mono ?_; rintro e w1 ⟨rfl,k1⟩;have c0 := y00 k1 (y00 kc (RC'.out 0 (by omega)));have f0 := y01 k1 (y01 kc (RF'.out 0));have c1 := y00 k1 (y00 kc (RC'.out 1 (by omega)));have f1 := y01 k1 (y01 kc (RF'.out 1));have c2 := y00 k1 (y00 kc (RC'.out 2 (by omega)));have f2 := y01 k1 (y01 kc (RF'.out 2));have hk : Kept w w1 := (hkA.trans kc).trans k1;rw [HT0.out];clear k1 x0 x1 x2;go_wp2
    obtain ⟨e0,e1,e2⟩ := y0b (v0 := I tt.x) (v1 := I tt.y) (v2 := I tt.z) c0 c1 c2;exact bodyPost_ret (v := .tuple #[.agg #[I tt.x,I tt.y,I tt.z],I tt.d,.bool tt.ok]) (by simp [results,Tryz.results97,go_sem,e0,e1,e2]) rfl ⟨by rw [HTT.out],y07 hk (by omega) _ _ _⟩
   | true =>
    cases q2 : (v2 == 0) with
    | false =>
     rw [y5v (by simp only [beq_eq_false_iff_ne,ne_eq] at q2; intro hh; exact q2 hh.2.2)] at HT;have HT0 : Aside (reachT s v0 v1 v2 = tt) := HT;clear HT;go_wp2_with fail
     refine (y2h _ _ _ _ _).mono ?_; rintro e w1 ⟨rfl,k1⟩;have c0 := y00 k1 (y00 kc (RC'.out 0 (by omega)));have f0 := y01 k1 (y01 kc (RF'.out 0));have c1 := y00 k1 (y00 kc (RC'.out 1 (by omega)));have f1 := y01 k1 (y01 kc (RF'.out 1));have c2 := y00 k1 (y00 kc (RC'.out 2 (by omega)));have f2 := y01 k1 (y01 kc (RF'.out 2));have hk : Kept w w1 := (hkA.trans kc).trans k1;rw [HT0.out];clear k1 x0 x1 x2;go_wp2
     obtain ⟨e0,e1,e2⟩ := y0b (v0 := I tt.x) (v1 := I tt.y) (v2 := I tt.z) c0 c1 c2;exact bodyPost_ret (v := .tuple #[.agg #[I tt.x,I tt.y,I tt.z],I tt.d,.bool tt.ok]) (by simp [results,Tryz.results97,go_sem,e0,e1,e2]) rfl ⟨by rw [HTT.out],y07 hk (by omega) _ _ _⟩
    | true =>
     rw [ygw ⟨by simpa using q0,by simpa using q1,by simpa using q2⟩] at HT;have HT0 : Aside (inT s (outE p0 p1 p2 p0 p1 p2 b0 b1 b2 b3 b4 b5) = tt) := HT;clear HT;go_wp2_with fail
     refine (y67 _ _ _ _ _ _ _ _ _ _ _ _ _).mono ?_; rintro e w1 ⟨rfl,k1⟩;have c0 := later (y00 k1 (y00 kc (RC'.out 0 (by omega))));have f0 := laterF (y01 k1 (y01 kc (RF'.out 0)));have c1 := later (y00 k1 (y00 kc (RC'.out 1 (by omega))));have f1 := laterF (y01 k1 (y01 kc (RF'.out 1)));have c2 := later (y00 k1 (y00 kc (RC'.out 2 (by omega))));have f2 := laterF (y01 k1 (y01 kc (RF'.out 2)));have hk : Kept w w1 := (hkA.trans kc).trans k1;have hlt : w.heap.size + 1 + 1 < w1.heap.size := World.block_lt_of_cell? _ _ (y00 k1 (y00 kc (RC'.out 0 (by omega))));clear k1 x0 x1 x2 t0 t1 t2 t3 t4 t5 t6 t7 t8 q0 q1 q2;generalize (outE p0 p1 p2 p0 p1 p2 b0 b1 b2 b3 b4 b5) = E at HT0 ⊢;go_wp2
     refine wp_region_held_drew (S := (fun w' => Kept w w' ∧ Zc w' w1.heap.size 0 E.x ∧ Zc w' w1.heap.size 1 E.y ∧ Zc w' w1.heap.size 2 E.z ∧ Zc w' w1.heap.size 3 E.d ∧ w'.cell? (Y (w.heap.size + 1 + 1) 0) = some (cellV w' (Y (w.heap.size + 1 + 1) 0)) ∧ w'.cell? (Y (w.heap.size + 1 + 1) 1) = some (cellV w' (Y (w.heap.size + 1 + 1) 1)) ∧ w'.cell? (Y (w.heap.size + 1 + 1) 2) = some (cellV w' (Y (w.heap.size + 1 + 1) 2)) ∧ w'.frozen? (Y (w.heap.size + 1 + 1) 0) = false ∧ w'.frozen? (Y (w.heap.size + 1 + 1) 1) = false ∧ w'.frozen? (Y (w.heap.size + 1 + 1) 2) = false)) (by kernel_rfl) ?_ (fun hJ1 => ?_)
     ·exact G4o3.drew ⟨hk.alloc _ _,by go_simp,by go_simp,by go_simp,by go_simp,y02 (c0 _),y02 (c1 _),y02 (c2 _),f0 _ _,f1 _ _,f2 _ _⟩
     refine tkU 0 (h:=tkU 1 (h:=tkU 2 (h:=tkV 3 ?_)));try simp only [zP]
     refine tkV 4 ?_;try simp only [zP]
     refine rdW 5 rfl fun K hK => ?_;simp only [zQ];go_simp
     (go_at_call 95; refine (y44 _ _ _).mono ?_; rintro e w2 ⟨rfl,k2⟩)
     try go_wp2_with fail
     refine hK.out _ _ ?_ fun hJ2 => ?_
     ·exact G4o3.step k2 hJ1
     clear hK K hJ1;try simp only [zP]
     refine rdW 6 rfl fun K hK => ?_;simp only [zQ];go_simp;refine hK.out _ _ ?_ fun hJ3 => ?_
     ·exact (G4o3.put 2 _ (by omega) (by omega) (G4o3.put 1 _ (by omega) (by omega) (G4o3.put 0 _ (by omega) (by omega) hJ2)))
     clear hK K;try simp only [zP]
     refine tkU 7 (h:=tkV 8 ?_);try simp only [zP]
     refine wpAnyH_done (by kernel_rfl) ?_ _;go_wp2
     obtain ⟨hk,_,_,_,_,c0,c1,c2,_⟩ := hJ2;obtain ⟨e0,e1,e2⟩ := y0b (v0 := I E.x) (v1 := I E.y) (v2 := I E.z) c0 c1 c2;exact bodyPost_ret (v := .tuple #[.agg #[I E.x,I E.y,I E.z],I (add E.d s),.bool true]) (by simp [results,Tryz.results97,go_sem,e0,e1,e2]) rfl ⟨by rw [HTT.out,← HT0.out]; rfl,y07 hk (by omega) _ _ _⟩
end Go.Proofs.YtbenlgandjjopaaGreatDoor
