/- . -/
import Derived.Test.YtbenlgandjjopaaGreatDoorN5
import Derived.BigRegion
import Derived.LaidEql
open Go.Value renaming int → J
open Go.IntKind renaming i64 → U
open Go.World renaming cell?_setCell_other → zra,frozen?_setCell → zrb
open List renaming mem_singleton → zrc,mem_cons → zrd
namespace Go.Proofs.YtbenlgandjjopaaGreatDoor
set_option maxHeartbeats 4000000
set_option maxRecDepth 100000
open Go.ChangeShapes Go.WideShapes Go.ChangeAt Go.RowKit
set_option linter.unusedSimpArgs false
variable {w w1 w2 w' : World} {b0 a b b1 b2 n : Nat} {v0 v1 v2 v3 v4 v5 : Value} {x ya yb : Nd} {tp te ta tb : TypeId} {j : TypeInfo} {up : Option Nat} {D : List Nat} {k y : Int} {ca cb : Array Value}
def G33o6 (w : World) (b0 b1 b2 : Nat) (v0 v1 v2 v3 v4 v5 : Value) (w' : World) : Prop :=
 Kept w w' ∧
 w'.cell? ⟨b0,0,none⟩ = some v0 ∧
 w'.cell? ⟨b0,1,none⟩ = some v1 ∧
 w'.cell? ⟨b0,2,none⟩ = some v2 ∧
 w'.cell? ⟨b1,0,none⟩ = some v3 ∧
 w'.cell? ⟨b1,1,none⟩ = some v4 ∧
 w'.cell? ⟨b1,2,none⟩ = some v5 ∧
 w'.cell? ⟨b2,0,none⟩ = some (cellV w' ⟨b2,0,none⟩) ∧
 w'.cell? ⟨b2,1,none⟩ = some (cellV w' ⟨b2,1,none⟩) ∧
 w'.cell? ⟨b2,2,none⟩ = some (cellV w' ⟨b2,2,none⟩) ∧
 w'.cell? ⟨b2,3,none⟩ = some (cellV w' ⟨b2,3,none⟩) ∧
 w'.cell? ⟨b2,4,none⟩ = some (cellV w' ⟨b2,4,none⟩) ∧
 w'.cell? ⟨b2,5,none⟩ = some (cellV w' ⟨b2,5,none⟩) ∧
 w'.frozen? ⟨b2,0,none⟩ = false ∧
 w'.frozen? ⟨b2,1,none⟩ = false ∧
 w'.frozen? ⟨b2,2,none⟩ = false ∧
 w'.frozen? ⟨b2,3,none⟩ = false ∧
 w'.frozen? ⟨b2,4,none⟩ = false ∧
 w'.frozen? ⟨b2,5,none⟩ = false
theorem G33o6.step (k : Kept w1 w2) (h : G33o6 w b0 b1 b2 v0 v1 v2 v3 v4 v5 w1) : G33o6 w b0 b1 b2 v0 v1 v2 v3 v4 v5 w2 := by
 obtain ⟨h0,h1,h2,h3,h4,h5,h6,h7,h8,h9,h10,h11,h12,h13,h14,h15,h16,h17,h18⟩ := h;exact ⟨h0.trans k,y00 k h1,y00 k h2,y00 k h3,y00 k h4,y00 k h5,y00 k h6,y06 k h7,y06 k h8,y06 k h9,y06 k h10,y06 k h11,y06 k h12,y01 k h13,y01 k h14,y01 k h15,y01 k h16,y01 k h17,y01 k h18⟩
theorem G33o6.drew {w w1 : World} {b0 b1 b2 : Nat} {v0 v1 v2 v3 v4 v5 : Value} (h : G33o6 w b0 b1 b2 v0 v1 v2 v3 v4 v5 w1) : G33o6 w b0 b1 b2 v0 v1 v2 v3 v4 v5 w1.drew := h.step kd
theorem G33o6.put (i : Nat) (v : Value) (ho : w.heap.size ≤ b2) (n0 : b0 ≠ b2) (n1 : b1 ≠ b2) (h : G33o6 w b0 b1 b2 v0 v1 v2 v3 v4 v5 w1) : G33o6 w b0 b1 b2 v0 v1 v2 v3 v4 v5 (w1.setCell (Y b2 i) v) := by
 obtain ⟨h0,h1,h2,h3,h4,h5,h6,h7,h8,h9,h10,h11,h12,h13,h14,h15,h16,h17,h18⟩ := h;exact ⟨h0.setCell (p := Y b2 i) ho v,(zf n0).trans h1,(zf n0).trans h2,(zf n0).trans h3,(zf n1).trans h4,(zf n1).trans h5,(zf n1).trans h6,y04 h7,y04 h8,y04 h9,y04 h10,y04 h11,y04 h12,(zrb _ _ _ _).trans h13,(zrb _ _ _ _).trans h14,(zrb _ _ _ _).trans h15,(zrb _ _ _ _).trans h16,(zrb _ _ _ _).trans h17,(zrb _ _ _ _).trans h18⟩
def G4 (w : World) (b0 : Nat) (v0 v1 v2 v3 : Value) (w' : World) : Prop :=
 Kept w w' ∧
 w'.cell? ⟨b0,0,none⟩ = some v0 ∧
 w'.cell? ⟨b0,1,none⟩ = some v1 ∧
 w'.cell? ⟨b0,2,none⟩ = some v2 ∧
 w'.cell? ⟨b0,3,none⟩ = some v3
theorem G4.step (k : Kept w1 w2) (h : G4 w b0 v0 v1 v2 v3 w1) : G4 w b0 v0 v1 v2 v3 w2 := by
 obtain ⟨h0,h1,h2,h3,h4⟩ := h;exact ⟨h0.trans k,y00 k h1,y00 k h2,y00 k h3,y00 k h4⟩
theorem G4.drew {w w1 : World} {b0 : Nat} {v0 v1 v2 v3 : Value} (h : G4 w b0 v0 v1 v2 v3 w1) : G4 w b0 v0 v1 v2 v3 w1.drew := h.step kd
def G4At (b0 : Nat) (v0 v1 v2 v3 : Value) (w' : World) : Prop :=
 w'.cell? ⟨b0,0,none⟩ = some v0 ∧
 w'.cell? ⟨b0,1,none⟩ = some v1 ∧
 w'.cell? ⟨b0,2,none⟩ = some v2 ∧
 w'.cell? ⟨b0,3,none⟩ = some v3
theorem G4At.step (k : Kept w1 w2) (h : G4At b0 v0 v1 v2 v3 w1) : G4At b0 v0 v1 v2 v3 w2 := by
 obtain ⟨h1,h2,h3,h4⟩ := h;exact ⟨y00 k h1,y00 k h2,y00 k h3,y00 k h4⟩
theorem G4At.start (h : G4At b0 v0 v1 v2 v3 w1) : G4 w1 b0 v0 v1 v2 v3 w1.drew := ⟨kd,h.step kd⟩
def hf (k x y : Int) : Int := if k = 1 then x else y
theorem ycg {x : Int} (h : k = 1) : hf k x y = x := by unfold hf; rw [if_pos h]
theorem y4b {x : Int} (h : ¬ k = 1) : hf k x y = y := by unfold hf; rw [if_neg h]
theorem yhy (k x y z : Int) (w : World) : Calls Tryz.prog 111 #[.agg #[I k,I x,I y,I z]] w fun e w' => e = .returned (.agg #[I x,I (hf k x y),I (hf k x z)]) ∧ Kept w w' := by
 by_cases h : k = 1
 ·have hb : (k == 1) = true := by simp [h]
  rw [ycg h,ycg h];go_enter Tryz.func111,Tryz.ntmps111
  go_wp2
  exact bodyPost_ret (v := .agg #[I x,I x,I x]) (by simp [results,Tryz.results111,go_sem]) rfl ⟨rfl,((Kept.refl _).alloc _ _).alloc _ _⟩
 ·have hb : (k == 1) = false := by simp [h]
  rw [y4b h,y4b h];go_enter Tryz.func111,Tryz.ntmps111
  go_wp2
  exact bodyPost_ret (v := .agg #[I x,I y,I z]) (by simp [results,Tryz.results111,go_sem]) rfl ⟨rfl,((Kept.refl _).alloc _ _).alloc _ _⟩
theorem y1q (k x y z p0 p1 p2 : Int) (w : World) : Calls Tryz.prog 69 #[.agg #[I k,I x,I y,I z],.agg #[I p0,I p1,I p2]] w fun e w' => e = .returned (.agg #[I (sub p0 x),I (sub p1 (hf k x y)),I (sub p2 (hf k x z)),I (add p0 x),I (add p1 (hf k x y)),I (add p2 (hf k x z))]) ∧ Kept w w' := by
 go_enter Tryz.func69,Tryz.ntmps69
 go_wp2_with fail
 refine (yhy _ _ _ _ _).mono ?_; rintro e w1 ⟨rfl,k1⟩;have hlt : w.heap.size + 1 + 1 + 1 ≤ w1.heap.size := by have := k1.below.size; simp at this; omega
 go_wp2
 refine wp_region_held_drew (S := (fun w' => Kept w w' ∧ Zc w' (w.heap.size + 1) 0 p0 ∧ Zc w' (w.heap.size + 1) 1 p1 ∧ Zc w' (w.heap.size + 1) 2 p2 ∧ Zc w' w1.heap.size 0 x ∧ Zc w' w1.heap.size 1 (hf k x y) ∧ Zc w' w1.heap.size 2 (hf k x z) ∧ w'.cell? (Y (w.heap.size + 1 + 1) 0) = some (cellV w' (Y (w.heap.size + 1 + 1) 0)) ∧ w'.cell? (Y (w.heap.size + 1 + 1) 1) = some (cellV w' (Y (w.heap.size + 1 + 1) 1)) ∧ w'.cell? (Y (w.heap.size + 1 + 1) 2) = some (cellV w' (Y (w.heap.size + 1 + 1) 2)) ∧ w'.cell? (Y (w.heap.size + 1 + 1) 3) = some (cellV w' (Y (w.heap.size + 1 + 1) 3)) ∧ w'.cell? (Y (w.heap.size + 1 + 1) 4) = some (cellV w' (Y (w.heap.size + 1 + 1) 4)) ∧ w'.cell? (Y (w.heap.size + 1 + 1) 5) = some (cellV w' (Y (w.heap.size + 1 + 1) 5)) ∧ w'.frozen? (Y (w.heap.size + 1 + 1) 0) = false ∧ w'.frozen? (Y (w.heap.size + 1 + 1) 1) = false ∧ w'.frozen? (Y (w.heap.size + 1 + 1) 2) = false ∧ w'.frozen? (Y (w.heap.size + 1 + 1) 3) = false ∧ w'.frozen? (Y (w.heap.size + 1 + 1) 4) = false ∧ w'.frozen? (Y (w.heap.size + 1 + 1) 5) = false)) (by kernel_rfl) ?_ (fun hJ1 => ?_)
 ·exact G33o6.drew (by refine ⟨(((((Kept.refl w).alloc _ _).alloc _ _).alloc _ _).trans k1).alloc _ _,later (y00 k1 ?_) _,later (y00 k1 ?_) _,later (y00 k1 ?_) _,?_,?_,?_,y02 (later (y00 k1 (v := I 0) ?_) _),y02 (later (y00 k1 (v := I 0) ?_) _),y02 (later (y00 k1 (v := I 0) ?_) _),y02 (later (y00 k1 (v := I 0) ?_) _),y02 (later (y00 k1 (v := I 0) ?_) _),y02 (later (y00 k1 (v := I 0) ?_) _),laterF (y01 k1 ?_) _ _,laterF (y01 k1 ?_) _ _,laterF (y01 k1 ?_) _ _,laterF (y01 k1 ?_) _ _,laterF (y01 k1 ?_) _ _,laterF (y01 k1 ?_) _ _⟩ <;> go_simp)
 refine tkU 0 (h:=tkU 1 (h:=tkU 3 (h:=tkV 4 ?_)));try simp only [zP]
 refine rdW 2 rfl fun K hK => ?_;simp only [zQ];go_simp
 (go_at_call 96; refine (y0o _ _ _ _ _ _ _).mono ?_; rintro e w2 ⟨rfl,k2⟩)
 try go_wp2_with fail
 refine hK.out _ _ ?_ fun hJ2 => ?_
 ·exact G33o6.step k2 hJ1
 clear hK K hJ1;try simp only [zP]
 refine rdW 5 rfl fun K hK => ?_;simp only [zQ];go_simp
 (go_at_call 73; refine (y1y _ _ _ _ _ _ _).mono ?_; rintro e w3 ⟨rfl,k3⟩)
 try go_wp2_with fail
 refine hK.out _ _ ?_ fun hJ3 => ?_
 ·exact G33o6.step k3 hJ2
 clear hK K hJ2;try simp only [zP]
 refine tkV 6 ?_;try simp only [zP]
 refine rdW 7 rfl fun K hK => ?_;simp only [zQ];go_simp;refine hK.out _ _ ?_ fun hJ4 => ?_
 ·exact (G33o6.put 5 _ (by omega) (by omega) (by omega) (G33o6.put 4 _ (by omega) (by omega) (by omega) (G33o6.put 3 _ (by omega) (by omega) (by omega) (G33o6.put 2 _ (by omega) (by omega) (by omega) (G33o6.put 1 _ (by omega) (by omega) (by omega) (G33o6.put 0 _ (by omega) (by omega) (by omega) hJ3))))))
 clear hK K;try simp only [zP]
 refine wpAnyH_done (by kernel_rfl) ?_ _;go_wp2
 obtain ⟨hk,_,_,_,_,_,_,c0,c1,c2,c3,c4,c5,_⟩ := hJ3;obtain ⟨e0,e1,e2,e3,e4,e5⟩ := y8t (v0 := I (sub p0 x)) (v1 := I (sub p1 (hf k x y))) (v2 := I (sub p2 (hf k x z))) (v3 := I (add p0 x)) (v4 := I (add p1 (hf k x y))) (v5 := I (add p2 (hf k x z))) c0 c1 c2 c3 c4 c5;exact bodyPost_ret (v := .agg #[I (sub p0 x),I (sub p1 (hf k x y)),I (sub p2 (hf k x z)),I (add p0 x),I (add p1 (hf k x y)),I (add p2 (hf k x z))]) (by simp [results,Tryz.results69,go_sem,e0,e1,e2,e3,e4,e5]) rfl ⟨rfl,y4h hk (by omega) _ _ _ _ _ _⟩
theorem y0p (k x y z p0 p1 p2 : Int) (w : World) : Calls Tryz.prog 16 #[.agg #[I k,I x,I y,I z],.agg #[I p0,I p1,I p2]] w fun e w' => e = .returned (.agg #[I (sub p0 x),I (sub p1 (hf k x y)),I (sub p2 (hf k x z)),I (add p0 x),I (add p1 (hf k x y)),I (add p2 (hf k x z))]) ∧ Kept w w' := by
 by_cases h : k = 1
 ·have hb : (k == 1) = true := by simp [h]
  rw [ycg h,ycg h];go_enter Tryz.func16,Tryz.ntmps16
  go_wp2
  refine wp_region_held_drew (S := (fun w' => Kept w w' ∧ Zc w' (w.heap.size + 1) 0 p0 ∧ Zc w' (w.heap.size + 1) 1 p1 ∧ Zc w' (w.heap.size + 1) 2 p2 ∧ Zc w' (w.heap.size + 1 + 1 + 1) 0 x ∧ Zc w' (w.heap.size + 1 + 1 + 1) 1 x ∧ Zc w' (w.heap.size + 1 + 1 + 1) 2 x ∧ w'.cell? (Y (w.heap.size + 1 + 1) 0) = some (cellV w' (Y (w.heap.size + 1 + 1) 0)) ∧ w'.cell? (Y (w.heap.size + 1 + 1) 1) = some (cellV w' (Y (w.heap.size + 1 + 1) 1)) ∧ w'.cell? (Y (w.heap.size + 1 + 1) 2) = some (cellV w' (Y (w.heap.size + 1 + 1) 2)) ∧ w'.cell? (Y (w.heap.size + 1 + 1) 3) = some (cellV w' (Y (w.heap.size + 1 + 1) 3)) ∧ w'.cell? (Y (w.heap.size + 1 + 1) 4) = some (cellV w' (Y (w.heap.size + 1 + 1) 4)) ∧ w'.cell? (Y (w.heap.size + 1 + 1) 5) = some (cellV w' (Y (w.heap.size + 1 + 1) 5)) ∧ w'.frozen? (Y (w.heap.size + 1 + 1) 0) = false ∧ w'.frozen? (Y (w.heap.size + 1 + 1) 1) = false ∧ w'.frozen? (Y (w.heap.size + 1 + 1) 2) = false ∧ w'.frozen? (Y (w.heap.size + 1 + 1) 3) = false ∧ w'.frozen? (Y (w.heap.size + 1 + 1) 4) = false ∧ w'.frozen? (Y (w.heap.size + 1 + 1) 5) = false)) (by kernel_rfl) ?_ (fun hJ1 => ?_)
  ·exact G33o6.drew (by refine ⟨((((Kept.refl w).alloc _ _).alloc _ _).alloc _ _).alloc _ _,?_,?_,?_,?_,?_,?_,y02 (v := I 0) ?_,y02 (v := I 0) ?_,y02 (v := I 0) ?_,y02 (v := I 0) ?_,y02 (v := I 0) ?_,y02 (v := I 0) ?_,?_,?_,?_,?_,?_,?_⟩ <;> go_simp)
  refine tkU 0 (h:=tkU 1 (h:=tkU 3 (h:=tkV 4 ?_)));try simp only [zP]
  refine rdW 2 rfl fun K hK => ?_;simp only [zQ];go_simp
  (go_at_call 55; refine (y0u _ _ _ _ _ _ _).mono ?_; rintro e w2 ⟨rfl,k2⟩)
  try go_wp2_with fail
  refine hK.out _ _ ?_ fun hJ2 => ?_
  ·exact G33o6.step k2 hJ1
  clear hK K hJ1;try simp only [zP]
  refine rdW 5 rfl fun K hK => ?_;simp only [zQ];go_simp
  (go_at_call 50; refine (y1d _ _ _ _ _ _ _).mono ?_; rintro e w3 ⟨rfl,k3⟩)
  try go_wp2_with fail
  refine hK.out _ _ ?_ fun hJ3 => ?_
  ·exact G33o6.step k3 hJ2
  clear hK K hJ2;try simp only [zP]
  refine tkV 6 ?_;try simp only [zP]
  refine rdW 7 rfl fun K hK => ?_;simp only [zQ];go_simp;refine hK.out _ _ ?_ fun hJ4 => ?_
  ·exact (G33o6.put 5 _ (by omega) (by omega) (by omega) (G33o6.put 4 _ (by omega) (by omega) (by omega) (G33o6.put 3 _ (by omega) (by omega) (by omega) (G33o6.put 2 _ (by omega) (by omega) (by omega) (G33o6.put 1 _ (by omega) (by omega) (by omega) (G33o6.put 0 _ (by omega) (by omega) (by omega) hJ3))))))
  clear hK K;try simp only [zP]
  refine wpAnyH_done (by kernel_rfl) ?_ _;go_wp2
  obtain ⟨hk,_,_,_,_,_,_,c0,c1,c2,c3,c4,c5,_⟩ := hJ3;obtain ⟨e0,e1,e2,e3,e4,e5⟩ := y8t (v0 := I (sub p0 x)) (v1 := I (sub p1 x)) (v2 := I (sub p2 x)) (v3 := I (add p0 x)) (v4 := I (add p1 x)) (v5 := I (add p2 x)) c0 c1 c2 c3 c4 c5;exact bodyPost_ret (v := .agg #[I (sub p0 x),I (sub p1 x),I (sub p2 x),I (add p0 x),I (add p1 x),I (add p2 x)]) (by simp [results,Tryz.results16,go_sem,e0,e1,e2,e3,e4,e5]) rfl ⟨rfl,y4h hk (by omega) _ _ _ _ _ _⟩
 ·have hb : (k == 1) = false := by simp [h]
  rw [y4b h,y4b h];go_enter Tryz.func16,Tryz.ntmps16
  go_wp2
  refine wp_region_held_drew (S := (fun w' => Kept w w' ∧ Zc w' (w.heap.size + 1) 0 p0 ∧ Zc w' (w.heap.size + 1) 1 p1 ∧ Zc w' (w.heap.size + 1) 2 p2 ∧ Zc w' (w.heap.size + 1 + 1 + 1) 0 x ∧ Zc w' (w.heap.size + 1 + 1 + 1) 1 y ∧ Zc w' (w.heap.size + 1 + 1 + 1) 2 z ∧ w'.cell? (Y (w.heap.size + 1 + 1) 0) = some (cellV w' (Y (w.heap.size + 1 + 1) 0)) ∧ w'.cell? (Y (w.heap.size + 1 + 1) 1) = some (cellV w' (Y (w.heap.size + 1 + 1) 1)) ∧ w'.cell? (Y (w.heap.size + 1 + 1) 2) = some (cellV w' (Y (w.heap.size + 1 + 1) 2)) ∧ w'.cell? (Y (w.heap.size + 1 + 1) 3) = some (cellV w' (Y (w.heap.size + 1 + 1) 3)) ∧ w'.cell? (Y (w.heap.size + 1 + 1) 4) = some (cellV w' (Y (w.heap.size + 1 + 1) 4)) ∧ w'.cell? (Y (w.heap.size + 1 + 1) 5) = some (cellV w' (Y (w.heap.size + 1 + 1) 5)) ∧ w'.frozen? (Y (w.heap.size + 1 + 1) 0) = false ∧ w'.frozen? (Y (w.heap.size + 1 + 1) 1) = false ∧ w'.frozen? (Y (w.heap.size + 1 + 1) 2) = false ∧ w'.frozen? (Y (w.heap.size + 1 + 1) 3) = false ∧ w'.frozen? (Y (w.heap.size + 1 + 1) 4) = false ∧ w'.frozen? (Y (w.heap.size + 1 + 1) 5) = false)) (by kernel_rfl) ?_ (fun hJ1 => ?_)
  ·exact G33o6.drew (by refine ⟨((((Kept.refl w).alloc _ _).alloc _ _).alloc _ _).alloc _ _,?_,?_,?_,?_,?_,?_,y02 (v := I 0) ?_,y02 (v := I 0) ?_,y02 (v := I 0) ?_,y02 (v := I 0) ?_,y02 (v := I 0) ?_,y02 (v := I 0) ?_,?_,?_,?_,?_,?_,?_⟩ <;> go_simp)
  refine tkU 0 (h:=tkU 1 (h:=tkU 3 (h:=tkV 4 ?_)));try simp only [zP]
  refine rdW 2 rfl fun K hK => ?_;simp only [zQ];go_simp
  (go_at_call 55; refine (y0u _ _ _ _ _ _ _).mono ?_; rintro e w2 ⟨rfl,k2⟩)
  try go_wp2_with fail
  refine hK.out _ _ ?_ fun hJ2 => ?_
  ·exact G33o6.step k2 hJ1
  clear hK K hJ1;try simp only [zP]
  refine rdW 5 rfl fun K hK => ?_;simp only [zQ];go_simp
  (go_at_call 50; refine (y1d _ _ _ _ _ _ _).mono ?_; rintro e w3 ⟨rfl,k3⟩)
  try go_wp2_with fail
  refine hK.out _ _ ?_ fun hJ3 => ?_
  ·exact G33o6.step k3 hJ2
  clear hK K hJ2;try simp only [zP]
  refine tkV 6 ?_;try simp only [zP]
  refine rdW 7 rfl fun K hK => ?_;simp only [zQ];go_simp;refine hK.out _ _ ?_ fun hJ4 => ?_
  ·exact (G33o6.put 5 _ (by omega) (by omega) (by omega) (G33o6.put 4 _ (by omega) (by omega) (by omega) (G33o6.put 3 _ (by omega) (by omega) (by omega) (G33o6.put 2 _ (by omega) (by omega) (by omega) (G33o6.put 1 _ (by omega) (by omega) (by omega) (G33o6.put 0 _ (by omega) (by omega) (by omega) hJ3))))))
  clear hK K;try simp only [zP]
  refine wpAnyH_done (by kernel_rfl) ?_ _;go_wp2
  obtain ⟨hk,_,_,_,_,_,_,c0,c1,c2,c3,c4,c5,_⟩ := hJ3;obtain ⟨e0,e1,e2,e3,e4,e5⟩ := y8t (v0 := I (sub p0 x)) (v1 := I (sub p1 y)) (v2 := I (sub p2 z)) (v3 := I (add p0 x)) (v4 := I (add p1 y)) (v5 := I (add p2 z)) c0 c1 c2 c3 c4 c5;exact bodyPost_ret (v := .agg #[I (sub p0 x),I (sub p1 y),I (sub p2 z),I (add p0 x),I (add p1 y),I (add p2 z)]) (by simp [results,Tryz.results16,go_sem,e0,e1,e2,e3,e4,e5]) rfl ⟨rfl,y4h hk (by omega) _ _ _ _ _ _⟩
def sz (n : Int) : Bool := decide (1 ≤ n) && decide (n ≤ 3276800)
theorem y6e (n : Int) (w : World) : Calls Tryz.prog 104 #[I n] w fun e w' => e = .returned (.bool (sz n)) ∧ Kept w w' := yeo n w
theorem y4i (pf : Nat) (g : Int → Int → Int → Int) (he : ∀ args w,(callFunc pf args).run Tryz.prog w = .ok (.enter pf args) w) (hg : Takes pf g)
  (p : Nat) (k x y z : Int) (w : World) (H : G4At p (I k) (I x) (I y) (I z) w) :
  Calls Tryz.prog 106 #[.func (.func pf) #[] #[],.pointer (some (Y p 0))] w fun e w' => e = .returned (.bool (sz (g x y z))) ∧ Kept w w' := by
 obtain ⟨c0,c1,c2,c3⟩ := H;go_enter Tryz.func106,Tryz.ntmps106
 go_wp2_with fail
 go_at_fn pf
 refine (hg _ _ _ _).mono ?_; rintro e w1 ⟨rfl,k1⟩;go_wp2_with fail
 refine (y6e _ _).mono ?_; rintro e w2 ⟨rfl,k2⟩;go_wp2
 go_ret
 exact ⟨rfl,k1.trans k2⟩
def rightB (k x y z : Int) : Bool := if k = 1 then sz x && (y == 0 && z == 0) else if k = 2 then sz x && sz y && sz z else false
theorem ydu (k x y z : Int) (w : World) : Calls Tryz.prog 67 #[.agg #[I k,I x,I y,I z]] w fun e w' => e = .returned (.bool (rightB k x y z)) ∧ Kept w w' := by
 have hmf := hmfT;unfold rightB;by_cases h : k = 1
 ·have hb : (k == 1) = true := by simp [h]
  rw [if_pos h];have hx : (x == x) = true := by simp
  cases e1 : sz x with
  | false =>
   go_enter Tryz.func67,Tryz.ntmps67
   go_wp2_with fail
   refine (y6e _ _).mono ?_; rintro e w1 ⟨rfl,k1⟩;go_wp2
   go_ret
   exact ⟨rfl,((Kept.refl _).alloc _ _).trans k1⟩
  | true =>
   cases e2 : (y == 0) with
   | false =>
    go_enter Tryz.func67,Tryz.ntmps67
    go_wp2_with fail
    refine (y6e _ _).mono ?_; rintro e w1 ⟨rfl,k1⟩;have c0 : w1.cell? (Y w.heap.size 0) = some (I k) := y00 k1 (by go_simp);have c1 : w1.cell? (Y w.heap.size 1) = some (I x) := y00 k1 (by go_simp);have c2 : w1.cell? (Y w.heap.size 2) = some (I y) := y00 k1 (by go_simp);have c3 : w1.cell? (Y w.heap.size 3) = some (I z) := y00 k1 (by go_simp);go_wp2
    go_ret
    exact ⟨rfl,((Kept.refl _).alloc _ _).trans k1⟩
   | true =>
    cases e3 : (z == 0) with
    | false =>
     go_enter Tryz.func67,Tryz.ntmps67
     go_wp2_with fail
     refine (y6e _ _).mono ?_; rintro e w1 ⟨rfl,k1⟩;have c0 : w1.cell? (Y w.heap.size 0) = some (I k) := y00 k1 (by go_simp);have c1 : w1.cell? (Y w.heap.size 1) = some (I x) := y00 k1 (by go_simp);have c2 : w1.cell? (Y w.heap.size 2) = some (I y) := y00 k1 (by go_simp);have c3 : w1.cell? (Y w.heap.size 3) = some (I z) := y00 k1 (by go_simp);go_wp2
     go_ret
     exact ⟨rfl,((Kept.refl _).alloc _ _).trans k1⟩
    | true =>
     go_enter Tryz.func67,Tryz.ntmps67
     go_wp2_with fail
     refine (y6e _ _).mono ?_; rintro e w1 ⟨rfl,k1⟩;have c0 : w1.cell? (Y w.heap.size 0) = some (I k) := y00 k1 (by go_simp);have c1 : w1.cell? (Y w.heap.size 1) = some (I x) := y00 k1 (by go_simp);have c2 : w1.cell? (Y w.heap.size 2) = some (I y) := y00 k1 (by go_simp);have c3 : w1.cell? (Y w.heap.size 3) = some (I z) := y00 k1 (by go_simp);go_wp2
     go_ret
     exact ⟨rfl,((Kept.refl _).alloc _ _).trans k1⟩
 ·have hb : (k == 1) = false := by simp [h]
  rw [if_neg h];by_cases h2 : k = 2
  ·have hb2 : (k == 2) = true := by simp [h2]
   rw [if_pos h2];go_enter Tryz.func67,Tryz.ntmps67
   go_wp2_with fail
   refine (y8q 106 _ (sz x) (sz y) (sz z) (enters_of Tryz.func106 (by kernel_rfl) rfl) (G4At w.heap.size (I k) (I x) (I y) (I z)) (fun _ _ k h => h.step k)
    (ans1 fun w' h => y4i _ _ en0 takes0 _ k x y z w' h) (ans1 fun w' h => y4i _ _ en1 takes1 _ k x y z w' h) (ans1 fun w' h => y4i _ _ en2 takes2 _ k x y z w' h) _ (by refine ⟨?_,?_,?_,?_⟩ <;> go_simp)).mono ?_
   rintro e w1 ⟨rfl,k1⟩;go_wp2
   go_ret
   exact ⟨rfl,((Kept.refl _).alloc _ _).trans k1⟩
  ·have hb2 : (k == 2) = false := by simp [h2]
   rw [if_neg h2];go_enter Tryz.func67,Tryz.ntmps67
   go_wp2
   go_ret
   exact ⟨rfl,(Kept.refl _).alloc _ _⟩
set_option linter.unusedVariables false
theorem y3o {n : Int} (h : -9223372036854775808 ≤ n) (k : n ≤ 9223372036854775807) : IntKind.i64.wrap n = n := by rw [IntKind.wrap_i64]; omega
def bothX (a b : Bx) : Bx := ⟨lesser a.x0 b.x0,lesser a.x1 b.x1,lesser a.x2 b.x2,greater a.x3 b.x3,greater a.x4 b.x4,greater a.x5 b.x5⟩
def MS (n : Nat) (x : Nd) (a : Nat) (ya : Nd) (b : Nat) (yb : Nd) (w w' : World) : Prop :=
 Only [n] w w' ∧ (∃ k,NodeAt w' n { x with room := k }) ∧ w'.cell? ⟨a,7,none⟩ = some (J U ya.room.x0) ∧ w'.cell? ⟨a,8,none⟩ = some (J U ya.room.x1) ∧ w'.cell? ⟨a,9,none⟩ = some (J U ya.room.x2) ∧ w'.cell? ⟨a,10,none⟩ = some (J U ya.room.x3) ∧ w'.cell? ⟨a,11,none⟩ = some (J U ya.room.x4) ∧ w'.cell? ⟨a,12,none⟩ = some (J U ya.room.x5) ∧ w'.cell? ⟨b,7,none⟩ = some (J U yb.room.x0) ∧ w'.cell? ⟨b,8,none⟩ = some (J U yb.room.x1) ∧ w'.cell? ⟨b,9,none⟩ = some (J U yb.room.x2) ∧ w'.cell? ⟨b,10,none⟩ = some (J U yb.room.x3) ∧ w'.cell? ⟨b,11,none⟩ = some (J U yb.room.x4) ∧ w'.cell? ⟨b,12,none⟩ = some (J U yb.room.x5) ∧ w'.cell? ⟨n,7,none⟩ = some (cellV w' ⟨n,7,none⟩) ∧ w'.cell? ⟨n,8,none⟩ = some (cellV w' ⟨n,8,none⟩) ∧ w'.cell? ⟨n,9,none⟩ = some (cellV w' ⟨n,9,none⟩) ∧ w'.cell? ⟨n,10,none⟩ = some (cellV w' ⟨n,10,none⟩) ∧ w'.cell? ⟨n,11,none⟩ = some (cellV w' ⟨n,11,none⟩) ∧ w'.cell? ⟨n,12,none⟩ = some (cellV w' ⟨n,12,none⟩) ∧ (∀ i,w'.frozen? ⟨n,i,none⟩ = false)
theorem MS.of (o : Only [n] w w') {k : Bx} (hn : NodeAt w' n { x with room := k }) (ha : NodeAt w' a ya) (hb : NodeAt w' b yb) : MS n x a ya b yb w w' :=
 ⟨o,⟨k,hn⟩,ha.c7,ha.c8,ha.c9,ha.c10,ha.c11,ha.c12,hb.c7,hb.c8,hb.c9,hb.c10,hb.c11,hb.c12,y02 hn.c7,y02 hn.c8,y02 hn.c9,y02 hn.c10,y02 hn.c11,y02 hn.c12,hn.free⟩
theorem MS.step (ha : NodeAt w a ya) (hb : NodeAt w b yb) (na : a ≠ n) (nb : b ≠ n) (k : Kept w1 w2) (h : MS n x a ya b yb w w1) : MS n x a ya b yb w w2 := by
 obtain ⟨o,⟨r,hn⟩,_⟩ := h;have o2 : Only [n] w w2 := o.trans (.of_kept k);exact .of o2 (hn.kept k) (o2.node (by simp [na]) ha) (o2.node (by simp [nb]) hb)
theorem MS.put (ha : NodeAt w a ya) (hb : NodeAt w b yb) (na : a ≠ n) (nb : b ≠ n) (k : Bx) (h : MS n x a ya b yb w w1) :
  MS n x a ya b yb w ((((((w1.setCell (Y n 7) (I k.x0)).setCell (Y n 8) (I k.x1)).setCell (Y n 9) (I k.x2)).setCell (Y n 10) (I k.x3)).setCell (Y n 11) (I k.x4)).setCell (Y n 12) (I k.x5)) := by
 obtain ⟨o,⟨r,hn⟩,_⟩ := h;have o2 := (((((o.setCell (p := Y n 7) (by simp) (I k.x0)).setCell (p := Y n 8) (by simp) (I k.x1)).setCell (p := Y n 9) (by simp) (I k.x2)).setCell (p := Y n 10) (by simp) (I k.x3)).setCell (p := Y n 11) (by simp) (I k.x4)).setCell (p := Y n 12) (by simp) (I k.x5);exact .of o2 (hn.putRoom k) (o2.node (by simp [na]) ha) (o2.node (by simp [nb]) hb)
theorem y3p (n a b : Nat) (x ya yb : Nd) (w : World) (el : x.l = some a) (er : x.r = some b) (na : a ≠ n) (nb : b ≠ n) (hn : NodeAt w n x) (ha : NodeAt w a ya) (hb : NodeAt w b yb)
  (b1 : 0 ≤ ya.high) (b2 : ya.high ≤ 1000000) (b3 : 0 ≤ yb.high) (b4 : yb.high ≤ 1000000) :
  Calls Tryz.prog 150 #[.pointer (some (Y n 0))] w fun e w' => e = .returned (.tuple #[]) ∧ NodeAt w' n { x with room := bothX ya.room yb.room,high := 1 + greater ya.high yb.high } ∧ Only [n] w w' := by
 have q15 : w.cell? (Y n 15) = some (.pointer (some (Y a 0))) := by have := hn.c15; rw [el] at this; exact this
 have q16 : w.cell? (Y n 16) = some (.pointer (some (Y b 0))) := by have := hn.c16; rw [er] at this; exact this
 have HN : Hid (NodeAt w n x ∧ NodeAt w a ya ∧ NodeAt w b yb ∧ x.l = some a ∧ x.r = some b) := ⟨hn,ha,hb,el,er⟩;clear hn ha hb el er;go_enter Tryz.func150,Tryz.ntmps150
 go_wp2_with fail
 go_quiet (fail)
 have G0 : Hid (NodeAt (w.drewN nq) n x ∧ NodeAt (w.drewN nq) a ya ∧ NodeAt (w.drewN nq) b yb ∧ Only [n] w (w.drewN nq)) := ⟨HN.out.1,HN.out.2.1,HN.out.2.2.1,Only.drewN _ _⟩;clear q15 q16;generalize w.drewN nq = w0 at G0 ⊢;go_wp2_with fail
 refine wp_region_held_drew (S := (fun w' => Only [n] w0 w' ∧ (∃ k,NodeAt w' n { x with room := k }) ∧ Zc w' a 7 ya.room.x0 ∧ Zc w' a 8 ya.room.x1 ∧ Zc w' a 9 ya.room.x2 ∧ Zc w' a 10 ya.room.x3 ∧ Zc w' a 11 ya.room.x4 ∧ Zc w' a 12 ya.room.x5 ∧ Zc w' b 7 yb.room.x0 ∧ Zc w' b 8 yb.room.x1 ∧ Zc w' b 9 yb.room.x2 ∧ Zc w' b 10 yb.room.x3 ∧ Zc w' b 11 yb.room.x4 ∧ Zc w' b 12 yb.room.x5 ∧ w'.cell? (Y n 7) = some (cellV w' (Y n 7)) ∧ w'.cell? (Y n 8) = some (cellV w' (Y n 8)) ∧ w'.cell? (Y n 9) = some (cellV w' (Y n 9)) ∧ w'.cell? (Y n 10) = some (cellV w' (Y n 10)) ∧ w'.cell? (Y n 11) = some (cellV w' (Y n 11)) ∧ w'.cell? (Y n 12) = some (cellV w' (Y n 12)) ∧ (∀ i,w'.frozen? (Y n i) = false))) (by kernel_rfl) ?_ (fun hJ1 => ?_)
 ·exact MS.of ((Only.refl _ _).drew) G0.out.1 G0.out.2.1 G0.out.2.2.1
 refine tkU 0 (h:=tkU 1 (h:=tkU 2 (h:=tkV 3 ?_)));try simp only [zP]
 refine tkU 4 (h:=tkU 5 (h:=tkU 6 (h:=tkV 7 ?_)));try simp only [zP]
 refine tkV 8 ?_;try simp only [zP]
 refine rdW 9 rfl fun K hK => ?_;simp only [zQ];go_simp
 (go_at_call 191; refine (y94 _ _ _ _ _ _ _ _ _ _ _ _ _).mono ?_; rintro e w1 ⟨rfl,k1⟩)
 try go_wp2_with fail
 refine hK.out _ _ ?_ fun hJ2 => ?_
 ·exact MS.step G0.out.2.1 G0.out.2.2.1 na nb k1 hJ1
 clear hK K hJ1;try simp only [zP]
 refine tkU 10 (h:=tkV 11 ?_);try simp only [zP]
 refine rdW 12 rfl fun K hK => ?_;simp only [zQ];go_simp;refine hK.out _ _ ?_ fun hJ3 => ?_
 ·exact MS.put (k := bothX ya.room yb.room) G0.out.2.1 G0.out.2.2.1 na nb hJ2
 clear hK K;try simp only [zP]
 refine wpAnyH_done (by kernel_rfl) ?_ _;obtain ⟨o2,⟨r2,hn2⟩,_⟩ := hJ2;have o3 : Only [n] w _ := G0.out.2.2.2.trans hJ3.1;have n3 := hn2.putRoom (bothX ya.room yb.room);have a3 := hJ3.1.node (by simp [na]) G0.out.2.1;have b3' := hJ3.1.node (by simp [nb]) G0.out.2.2.1;clear hJ3 hn2 o2;have G3 : Hid (Only [n] w _ ∧ NodeAt _ n { x with room := bothX ya.room yb.room } ∧ NodeAt _ a ya ∧ NodeAt _ b yb) := ⟨o3,n3,a3,b3'⟩;clear o3 n3 a3 b3';revert G3;simp only [bothX];generalize World.setCell _ _ _ = w3;intro G3;have g1 : 0 ≤ greater ya.high yb.high := by unfold greater; split <;> omega
 have g2 : greater ya.high yb.high ≤ 1000000 := by unfold greater; split <;> omega
 go_wp2_with fail
 refine wp_region_held_drew (S := (fun w' => Only [n] w3 w' ∧ (∃ k,NodeAt w' n { x with room := bothX ya.room yb.room,high := k }) ∧ Zc w' a 13 ya.high ∧ Zc w' b 13 yb.high ∧ w'.cell? (Y n 13) = some (cellV w' (Y n 13)) ∧ (∀ i,w'.frozen? (Y n i) = false))) (by kernel_rfl) ?_ (fun hJ1 => ?_)
 ·exact ⟨(Only.refl _ _).drew,⟨_,G3.out.2.1⟩,G3.out.2.2.1.c13,G3.out.2.2.2.c13,y02 G3.out.2.1.c13,G3.out.2.1.free⟩
 refine tkU 0 (h:=tkU 1 (h:=tkU 2 (h:=tkV 3 ?_)));try simp only [zP]
 refine tkU 4 (h:=tkU 5 (h:=tkU 6 (h:=tkV 7 ?_)));try simp only [zP]
 refine tkV 8 ?_;try simp only [zP]
 refine tkW (v := I (greater ya.high yb.high)) 9 rfl ?_ (by intro w'' hSw; (try dsimp only at hSw); simp only [zQ]; (go_simp <;> rfl));try simp only [zP]
 refine tkU 10 (h:=tkU 11 (h:=tkV 12 ?_));try simp only [zP]
 refine rdW 13 rfl fun K hK => ?_;simp only [zQ];go_simp;refine hK.out _ _ ?_ fun hJ2 => ?_
 ·exact ⟨hJ1.1.setCell (by simp) _,⟨_,hJ1.2.1.choose_spec.putHigh _⟩,(zra _ _ _ _ (by simp [na,nb,Ne.symm na,Ne.symm nb])).trans hJ1.2.2.1,(zra _ _ _ _ (by simp [na,nb,Ne.symm na,Ne.symm nb])).trans hJ1.2.2.2.1,y04 hJ1.2.2.2.2.1,fun i => (zrb _ _ _ _).trans (hJ1.2.2.2.2.2 i)⟩
 clear hK K;try simp only [zP]
 refine wpAnyH_done (by kernel_rfl) ?_ _;go_wp2
 obtain ⟨_,⟨k1,m1⟩,_⟩ := hJ1;go_end0
 rw [y3o (by omega) (by omega)] at hJ2 ⊢;exact ⟨rfl,m1.putHigh _,G3.out.1.trans hJ2.1⟩
theorem y1s (n a b : Nat) (x ya yb : Nd) (w : World) (na : a ≠ n) (nb : b ≠ n) (ab : a ≠ b) (hn : NodeAt w n x) (ha : NodeAt w a ya) (hb : NodeAt w b yb)
  (b1 : 0 ≤ ya.high) (b2 : ya.high ≤ 1000000) (b3 : 0 ≤ yb.high) (b4 : yb.high ≤ 1000000) :
  Calls Tryz.prog 149 #[.pointer (some (Y n 0)),.pointer (some (Y a 0)),.pointer (some (Y b 0))] w fun e w' => e = .returned (.tuple #[]) ∧
   NodeAt w' n { x with l := some a,r := some b,room := bothX ya.room yb.room,high := 1 + greater ya.high yb.high } ∧ NodeAt w' a { ya with up := some n } ∧ NodeAt w' b { yb with up := some n } ∧ Only [n,a,b] w w' := by
 have c15 := hn.c15; have c16 := hn.c16; have f1 := hn.free; have c14 := ha.c14; have f2 := ha.free; have d14 := hb.c14; have f3 := hb.free;have HN : Hid (NodeAt w n x ∧ NodeAt w a ya ∧ NodeAt w b yb) := ⟨hn,ha,hb⟩;clear hn ha hb;go_enter Tryz.func149,Tryz.ntmps149
 go_wp2_with fail
 clear c15 c16 f1 c14 f2 d14 f3;obtain ⟨hn,ha,hb⟩ := HN.out;have n1 := (((hn.putL (some a)).putR (some b)).far (p := Y a 14) (Ne.symm na) (ptr (some n))).far (p := Y b 14) (Ne.symm nb) (ptr (some n));have a1 := (((ha.far (p := Y n 15) na (ptr (some a))).far (p := Y n 16) na (ptr (some b))).putUp (some n)).far (p := Y b 14) ab (ptr (some n));have b1' := (((hb.far (p := Y n 15) nb (ptr (some a))).far (p := Y n 16) nb (ptr (some b))).far (p := Y a 14) (Ne.symm ab) (ptr (some n))).putUp (some n);have o1 : Only [n,a,b] w _ := ((((Only.refl [n,a,b] w).setCell (p := Y n 15) (by simp) (ptr (some a))).setCell (p := Y n 16) (by simp) (ptr (some b))).setCell (p := Y a 14) (by simp) (ptr (some n))).setCell (p := Y b 14) (by simp) (ptr (some n));clear hn ha hb;have HO : Hid (Only [n,a,b] w _ ∧ _ ∧ _) := ⟨o1,a1,b1'⟩;refine (y3p n a b _ _ _ _ rfl rfl na nb n1 a1 b1' b1 b2 b3 b4).mono ?_;rintro e w2 ⟨rfl,m2,o2⟩;clear o1 a1 b1' n1;have HM : Hid (NodeAt w2 n _ ∧ Only [n] _ w2) := ⟨m2,o2⟩;clear m2 o2;go_wp2_with fail
 go_end0
 exact ⟨rfl,HM.out.1,HM.out.2.node (by simp [na]) HO.out.2.1,HM.out.2.node (by simp [nb]) HO.out.2.2,HO.out.1.trans (HM.out.2.mono (by simp))⟩
structure Tr where
 b : Nat
 d : (Int × Bx × Bx) ⊕ (Tr × Tr)
abbrev Tr.leaf (b : Nat) (id : Int) (box room : Bx) : Tr := ⟨b,.inl (id,box,room)⟩
abbrev Tr.node (b : Nat) (l r : Tr) : Tr := ⟨b,.inr (l,r)⟩
theorem Tr.ind {P : Tr → Prop} (leaf : ∀ b id box room,P (.leaf b id box room)) (node : ∀ b l r,P l → P r → P (.node b l r)) : ∀ T,P T
 | ⟨b,.inl (id,box,room)⟩ => leaf b id box room
 | ⟨b,.inr (l,r)⟩ => node b l r (Tr.ind leaf node l) (Tr.ind leaf node r)
theorem Tr.cs {P : Tr → Prop} (leaf : ∀ b id box room,P (.leaf b id box room)) (node : ∀ b l r,P (.node b l r)) (T : Tr) : P T := Tr.ind leaf (fun b l r _ _ => node b l r) T
def Tr.root : Tr → Nat
 | ⟨b,.inl (_,_,_)⟩ => b
 | ⟨b,.inr (_,_)⟩ => b
def Tr.high : Tr → Int
 | ⟨_,.inl (_,_,_)⟩ => 0
 | ⟨_,.inr (l,r)⟩ => 1 + greater l.high r.high
def Tr.room : Tr → Bx
 | ⟨_,.inl (_,_,r)⟩ => r
 | ⟨_,.inr (l,r)⟩ => bothX l.room r.room
def Tr.blocks : Tr → List Nat
 | ⟨b,.inl (_,_,_)⟩ => [b]
 | ⟨b,.inr (l,r)⟩ => b :: (l.blocks ++ r.blocks)
def Tr.nd (up : Option Nat) : Tr → Nd
 | ⟨_,.inl (id,box,room)⟩ => ⟨id,box,room,0,up,none,none⟩
 | ⟨_,.inr (l,r)⟩ => ⟨0,bx0,bothX l.room r.room,1 + greater l.high r.high,up,some l.root,some r.root⟩
def In (w : World) (up : Option Nat) : Tr → Prop
 | ⟨b,.inl (id,box,room)⟩ => NodeAt w b ((Tr.leaf b id box room).nd up)
 | ⟨b,.inr (l,r)⟩ => NodeAt w b ((Tr.node b l r).nd up) ∧ In w (some b) l ∧ In w (some b) r
theorem y3w (up : Option Nat) (T : Tr) : (T.nd up).room = T.room := by cases T using Tr.cs <;> rfl
theorem y1l (up : Option Nat) (T : Tr) : (T.nd up).high = T.high := by cases T using Tr.cs <;> rfl
theorem nd_up (up u : Option Nat) (T : Tr) : { T.nd up with up := u } = T.nd u := by cases T using Tr.cs <;> rfl
theorem yjq (up : Option Nat) (T : Tr) : (T.nd up).up = up := by cases T using Tr.cs <;> rfl
theorem y0m (T : Tr) : T.root ∈ T.blocks := by cases T using Tr.cs <;> simp [Tr.root,Tr.blocks]
theorem y0a : ∀ T : Tr,0 ≤ T.high
 | ⟨_,.inl (_,_,_)⟩ => Int.le_refl _
 | ⟨_,.inr (l,r)⟩ => by have := y0a l; have := y0a r; unfold Tr.high greater; split <;> omega
theorem In.node {w : World} {up : Option Nat} {T : Tr} (h : In w up T) : NodeAt w T.root (T.nd up) := by
 cases T using Tr.cs with
 | leaf => exact h
 | node => exact h.1
theorem In.only {D : List Nat} {w w' : World} (o : Only D w w') : ∀ {T : Tr} {up : Option Nat},(∀ b ∈ T.blocks,b ∉ D) → In w up T → In w' up T
 | ⟨b,.inl (_,_,_)⟩,_,s,h => o.node (s b (by simp [Tr.blocks])) h
 | ⟨b,.inr (l,r)⟩,_,s,h => ⟨o.node (s b (by simp [Tr.blocks])) h.1,In.only o (fun x hx => s x (by simp [Tr.blocks,hx])) h.2.1,In.only o (fun x hx => s x (by simp [Tr.blocks,hx])) h.2.2⟩
theorem In.drewN {w : World} {up : Option Nat} {T : Tr} (h : In w up T) (k : Nat) : In (w.drewN k) up T := h.only (Only.drewN (D := []) w k) (by simp)
theorem In.reroot (o : Only D w w') {T : Tr} {u : Option Nat} (h : In w up T) (s : ∀ b ∈ T.blocks,b ≠ T.root → b ∉ D) (nd : T.blocks.Nodup) (k : NodeAt w' T.root (T.nd u)) : In w' u T := by
 cases T using Tr.cs with
 | leaf => exact k
 | node b l r =>
  simp only [Tr.blocks,List.nodup_cons,List.mem_append,not_or] at nd;refine ⟨k,In.only o (fun x hx => s x (by simp [Tr.blocks,hx]) ?_) h.2.1,In.only o (fun x hx => s x (by simp [Tr.blocks,hx]) ?_) h.2.2⟩
  ·exact fun e => nd.1.1 (by rw [show x = b from e] at hx; exact hx)
  ·exact fun e => nd.1.2 (by rw [show x = b from e] at hx; exact hx)
structure Fr where
 b : Nat
 room : Bx
 high : Int
 left : Bool
 sib : Tr
def upOf : List Fr → Option Nat
 | [] => none
 | f :: _ => some f.b
def Fr.nd (f : Fr) (up : Option Nat) (h : Nat) : Nd := ⟨0,bx0,f.room,f.high,up,some (if f.left then h else f.sib.root),some (if f.left then f.sib.root else h)⟩
def Arnd (w : World) (t : Nat) (fat : Int) (lv : Option Nat) : List Fr → Nat → Prop
 | [],h => TreeAt w t fat (some h) lv
 | f :: c,h => NodeAt w f.b (f.nd (upOf c) h) ∧ In w (some f.b) f.sib ∧ Arnd w t fat lv c f.b
def cblocks : List Fr → List Nat
 | [] => []
 | f :: c => f.b :: (f.sib.blocks ++ cblocks c)
theorem Arnd.only {D : List Nat} {w w' : World} (o : Only D w w') {t : Nat} {fat : Int} {lv : Option Nat} : ∀ {c : List Fr} {h : Nat},(∀ b ∈ t :: cblocks c,b ∉ D) → Arnd w t fat lv c h → Arnd w' t fat lv c h
 | [],_,s,k => o.tree (s t (by simp)) k
 | f :: c,_,s,k => ⟨o.node (s f.b (by simp [cblocks])) k.1,k.2.1.only o (fun x hx => s x (by simp [cblocks,hx])),Arnd.only o (fun x hx => s x (by simp only [zrd,cblocks,List.mem_append] at hx ⊢; rcases hx with hx | hx <;> simp [hx])) k.2.2⟩
def headOf (t : Nat) : List Fr → Nat
 | [] => t
 | f :: _ => f.b
theorem y1j (t : Nat) (c : List Fr) : headOf t c ∈ t :: cblocks c := by cases c <;> simp [headOf,cblocks]
section
variable {P : Program} (w : World)
theorem yd1 (d : Nat) (a : Addr) (hp : P.underlying tp = some (.pointer te)) (hte : P.info? te = some j) : (Op.equalIn (d + 1) tp (.pointer (some a)) (.pointer (some a))).run P w = .ok true w := by
 simp [Op.equalIn,run_underlying hp,sizeOf,typeInfo,run_sameAddr_same,hte]
theorem yb5 (d : Nat) {a b : Addr} (hp : P.underlying tp = some (.pointer te)) (hte : P.info? te = some j) (hsz : j.size ≠ 0)
  (hne : a ≠ b) (ha : w.heap[a.block]? = some (.cells ca ta (0,0))) (hb : w.heap[b.block]? = some (.cells cb tb (0,0))) : (Op.equalIn (d + 1) tp (.pointer (some a)) (.pointer (some b))).run P w = .ok false w := by
 simp [Op.equalIn,run_underlying hp,sizeOf,typeInfo,hte,hsz,run_sameAddr_other w hne ha hb]
theorem yds (a : Addr) (hp : P.underlying tp = some (.pointer te)) (hte : P.info? te = some j) : (binOp .eql tp (.pointer (some a)) (.pointer (some a))).run P w = .ok (.bool true) w := by
 simp only [binOp];simp [Op.equal,Op.maxDepth,yd1 w 9999 a hp hte]
theorem yc8 {a b : Addr} (hp : P.underlying tp = some (.pointer te)) (hte : P.info? te = some j) (hsz : j.size ≠ 0)
  (hne : a ≠ b) (ha : w.heap[a.block]? = some (.cells ca ta (0,0))) (hb : w.heap[b.block]? = some (.cells cb tb (0,0))) : (binOp .eql tp (.pointer (some a)) (.pointer (some b))).run P w = .ok (.bool false) w := by
 simp only [binOp];simp [Op.equal,Op.maxDepth,yb5 w 9999 hp hte hsz hne ha hb]
end
theorem nodeInfo : (Tryz.prog.info? 142).map (fun i => i.size) = some 17 := by kernel_rfl
theorem yed : ∃ j,Tryz.prog.info? 142 = some j ∧ j.size ≠ 0 := by
 have h := nodeInfo
 cases e : Tryz.prog.info? 142 with
 | none => rw [e] at h; cases h
 | some j => rw [e] at h; simp only [Option.map_some,Option.some.injEq] at h; exact ⟨j,rfl,by omega⟩
theorem ygl (w : World) (a : Nat) : (binOp .eql 110 (.pointer (some (Y a 0))) (.pointer (some (Y a 0)))).run Tryz.prog w = .ok (.bool true) w := by
 obtain ⟨j,hj,_⟩ := yed;exact yds w _ Tryz.underlying110 hj
theorem ydt {y : Nd} (h : a ≠ b) (ha : NodeAt w a x) (hb : NodeAt w b y) : (binOp .eql 110 (.pointer (some (Y a 0))) (.pointer (some (Y b 0)))).run Tryz.prog w = .ok (.bool false) w := by
 obtain ⟨j,hj,hs⟩ := yed;exact yc8 w Tryz.underlying110 hj hs (fun e => h (by injection e)) ha hb
theorem yfo (t old by_ : Nat) (x y : Nd) (fat : Int) (r lv : Option Nat) (w : World) (e1 : by_ ≠ old) (e2 : t ≠ by_) (e3 : t ≠ old) (hx : NodeAt w old x) (hu : x.up = none) (hy : NodeAt w by_ y) (ht : TreeAt w t fat r lv) :
  Calls Tryz.prog 112 #[.pointer (some (Y t 0)),.pointer (some (Y old 0)),.pointer (some (Y by_ 0))] w fun e w' => e = .returned (.tuple #[]) ∧ NodeAt w' by_ { y with up := none } ∧ TreeAt w' t fat (some by_) lv ∧ Only [by_,t] w w' := by
 have c1 := hx.c14; rw [hu] at c1; simp only [y7p] at c1;have c2 := hy.c14; have f2 := hy.free; have c3 := ht.c1; have f3 := ht.free;have HN : Hid (NodeAt w by_ y ∧ TreeAt w t fat r lv) := ⟨hy,ht⟩;clear hx hy ht hu;go_enter Tryz.func112,Tryz.ntmps112
 go_wp2_with fail
 go_end0
 obtain ⟨hy,ht⟩ := HN.out;exact ⟨rfl,(hy.putUp none).far (p := Y t 1) (Ne.symm e2) _,(ht.far (p := Y by_ 14) e2 _).putRoot (some by_),((Only.refl [by_,t] w).setCell (p := Y by_ 14) (by simp) _).setCell (p := Y t 1) (by simp) _⟩
theorem ye6 (t old by_ p : Nat) (x y z : Nd) (w : World) (e1 : by_ ≠ old) (e2 : p ≠ by_) (e3 : p ≠ old) (hx : NodeAt w old x) (hu : x.up = some p) (hy : NodeAt w by_ y) (hz : NodeAt w p z) (hl : z.l = some old) :
  Calls Tryz.prog 112 #[.pointer (some (Y t 0)),.pointer (some (Y old 0)),.pointer (some (Y by_ 0))] w fun e w' => e = .returned (.tuple #[]) ∧ NodeAt w' by_ { y with up := some p } ∧ NodeAt w' p { z with l := some by_ } ∧ Only [by_,p] w w' := by
 have c1 := hx.c14; rw [hu] at c1; simp only [y0t] at c1;have c2 := hy.c14; have f2 := hy.free; have c3 := hz.c15; have f3 := hz.free; rw [hl] at c3; simp only [y0t] at c3;have HN : Hid (NodeAt w by_ y ∧ NodeAt w p z) := ⟨hy,hz⟩;have q1 := ygl;clear hx hy hz hu hl;go_enter Tryz.func112,Tryz.ntmps112
 go_wp2_with fail
 go_end0
 obtain ⟨hy,hz⟩ := HN.out;exact ⟨rfl,(hy.putUp (some p)).far (p := Y p 15) (Ne.symm e2) _,(hz.far (p := Y by_ 14) e2 _).putL (some by_),((Only.refl [by_,p] w).setCell (p := Y by_ 14) (by simp) _).setCell (p := Y p 15) (by simp) _⟩
theorem ybh (t old by_ p q : Nat) (x y z : Nd) (w : World) (e1 : by_ ≠ old) (e2 : p ≠ by_) (e3 : p ≠ old) (e4 : q ≠ old) (hx : NodeAt w old x) (hu : x.up = some p) (hy : NodeAt w by_ y) (hz : NodeAt w p z) {u : Nd} (hq : NodeAt w q u) (e5 : q ≠ by_) (hl : z.l = some q) :
  Calls Tryz.prog 112 #[.pointer (some (Y t 0)),.pointer (some (Y old 0)),.pointer (some (Y by_ 0))] w fun e w' => e = .returned (.tuple #[]) ∧ NodeAt w' by_ { y with up := some p } ∧ NodeAt w' p { z with r := some by_ } ∧ Only [by_,p] w w' := by
 have c1 := hx.c14; rw [hu] at c1; simp only [y0t] at c1;have c2 := hy.c14; have f2 := hy.free; have c3 := hz.c15; have c4 := hz.c16; have f3 := hz.free; rw [hl] at c3; simp only [y0t] at c3;have HN : Hid (NodeAt w by_ y ∧ NodeAt w p z) := ⟨hy,hz⟩;have q1 : ∀ v,(binOp .eql 110 (.pointer (some (Y q 0))) (.pointer (some (Y old 0)))).run Tryz.prog (w.setCell (Y by_ 14) v) = .ok (.bool false) (w.setCell (Y by_ 14) v) := fun v => ydt e4 (hq.far e5 v) (hx.far (Ne.symm e1) v);clear hx hy hz hu hl hq;go_enter Tryz.func112,Tryz.ntmps112
 go_wp2_with fail
 go_end0
 obtain ⟨hy,hz⟩ := HN.out;exact ⟨rfl,(hy.putUp (some p)).far (p := Y p 16) (Ne.symm e2) _,(hz.far (p := Y by_ 14) e2 _).putR (some by_),((Only.refl [by_,p] w).setCell (p := Y by_ 14) (by simp) _).setCell (p := Y p 16) (by simp) _⟩
theorem y1e (t old by_ : Nat) (x y : Nd) (fat : Int) (lv : Option Nat) (c : List Fr) (w : World) (e1 : by_ ≠ old) (e2 : by_ ∉ t :: cblocks c) (e3 : old ∉ t :: cblocks c) (e4 : (t :: cblocks c).Nodup)
  (hx : NodeAt w old x) (hu : x.up = upOf c) (hy : NodeAt w by_ y) (ha : Arnd w t fat lv c old) :
  Calls Tryz.prog 112 #[.pointer (some (Y t 0)),.pointer (some (Y old 0)),.pointer (some (Y by_ 0))] w fun e w' => e = .returned (.tuple #[]) ∧ NodeAt w' by_ { y with up := upOf c } ∧ Arnd w' t fat lv c by_ ∧ Only [by_,headOf t c] w w' := by
 cases c with
 | nil =>
  simp only [cblocks,zrc] at e2 e3;exact yfo t old by_ x y fat _ lv w e1 (Ne.symm e2) (Ne.symm e3) hx hu hy ha
 | cons f c =>
  obtain ⟨hz,hs,hc⟩ := ha;simp only [cblocks,zrd,List.mem_append,not_or] at e2 e3;simp only [cblocks,List.nodup_cons,zrd,List.mem_append,not_or] at e4
  have far : ∀ w',Only [by_,f.b] w w' → In w' (some f.b) f.sib ∧ Arnd w' t fat lv c f.b := fun w' o =>
   ⟨hs.only o (fun b hb => by simp only [zrd,List.not_mem_nil,or_false,not_or]; exact ⟨fun e => e2.2.2.1 (e ▸ hb),fun e => e4.2.1.1 (e ▸ hb)⟩),
    hc.only o (fun b hb => by
    simp only [zrd] at hb;simp only [zrd,List.not_mem_nil,or_false,not_or];rcases hb with rfl | hb
    ·exact ⟨fun e => e2.1 e.symm,e4.1.1⟩
    ·exact ⟨fun e => e2.2.2.2 (e ▸ hb),fun e => e4.2.1.2 (e ▸ hb)⟩)⟩
  cases hl : f.left with
  | true =>
   refine (ye6 t old by_ f.b x y _ w e1 (Ne.symm e2.2.1) (Ne.symm e3.2.1) hx hu hy hz (by simp [Fr.nd,hl])).mono ?_;rintro e w' ⟨rfl,h1,h2,o⟩;refine ⟨rfl,h1,⟨?_,far w' o⟩,o⟩;have : { f.nd (upOf c) old with l := some by_ } = f.nd (upOf c) by_ := by simp [Fr.nd,hl]
   rw [← this]; exact h2
  | false =>
   refine (ybh t old by_ f.b f.sib.root x y _ w e1 (Ne.symm e2.2.1) (Ne.symm e3.2.1) (fun e => e3.2.2.1 (e ▸ y0m _)) hx hu hy hz hs.node (fun e => e2.2.2.1 (e ▸ y0m _)) (by simp [Fr.nd,hl])).mono ?_;rintro e w' ⟨rfl,h1,h2,o⟩;refine ⟨rfl,h1,⟨?_,far w' o⟩,o⟩;have : { f.nd (upOf c) old with r := some by_ } = f.nd (upOf c) by_ := by simp [Fr.nd,hl]
   rw [← this]; exact h2
end Go.Proofs.YtbenlgandjjopaaGreatDoor
