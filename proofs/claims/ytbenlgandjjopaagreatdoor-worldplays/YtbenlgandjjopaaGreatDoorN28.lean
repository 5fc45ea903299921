/- . -/
import Derived.Test.YtbenlgandjjopaaGreatDoorN23
open Go.Value renaming int → J
open Go.IntKind renaming i64 → U
open Go.World renaming cell?_setCell_other → zra,frozen?_setCell → zrb
namespace Go.Proofs.YtbenlgandjjopaaGreatDoor
set_option maxHeartbeats 16000000
open Go.ChangeShapes Go.WideShapes Go.ChangeAt Go.RowKit
set_option linter.unusedSimpArgs false
variable {w wB : World} {y b : Nat} {m : Ex}
theorem y3r (b : Nat) (x y z : Int) (w : World) (H : Row3 b x y z w) : Calls Tryz.prog 53 #[.slice (some (Y b 0)) 3 3] w fun e w' => e = .returned (.agg #[I x,I y,I z]) ∧ Kept w w' := by
 have hlt := World.block_lt_of_cell? _ _ H.1;have l0 := later H.1 (.cells #[I 0,I 0,I 0] 23);have l1 := later H.2.1 (.cells #[I 0,I 0,I 0] 23);have l2 := later H.2.2 (.cells #[I 0,I 0,I 0] 23);clear H;have hlt' : b < w.heap.size := hlt;clear hlt;go_enter Tryz.func53,Tryz.ntmps53
 go_wp2
 have c0 : (w.alloc (.cells #[I 0,I 0,I 0] 23)).cell? (Y w.heap.size 0) = some (I 0) := by go_simp
 have c1 : (w.alloc (.cells #[I 0,I 0,I 0] 23)).cell? (Y w.heap.size 1) = some (I 0) := by go_simp
 have c2 : (w.alloc (.cells #[I 0,I 0,I 0] 23)).cell? (Y w.heap.size 2) = some (I 0) := by go_simp
 have f : ∀ i,(w.alloc (.cells #[I 0,I 0,I 0] 23)).frozen? (Y w.heap.size i) = false := by intro i; go_simp
 have hk : Kept w (w.alloc (.cells #[I 0,I 0,I 0] 23)) := (Kept.refl w).alloc _ _;generalize (w.alloc (.cells #[I 0,I 0,I 0] 23)) = wA at l0 l1 l2 c0 c1 c2 f hk ⊢;refine wp_region_held_drew (S := (fun w' => Kept w w' ∧ Zc w' b 0 x ∧ Zc w' b 1 y ∧ Zc w' b 2 z ∧ w'.cell? (Y w.heap.size 0) = some (cellV w' (Y w.heap.size 0)) ∧ w'.cell? (Y w.heap.size 1) = some (cellV w' (Y w.heap.size 1)) ∧ w'.cell? (Y w.heap.size 2) = some (cellV w' (Y w.heap.size 2)) ∧ w'.frozen? (Y w.heap.size 0) = false ∧ w'.frozen? (Y w.heap.size 1) = false ∧ w'.frozen? (Y w.heap.size 2) = false)) (by kernel_rfl) ?_ (fun hJ1 => ?_)
 ·exact G3o.drew ⟨hk,l0,l1,l2,y02 c0,y02 c1,y02 c2,f 0,f 1,f 2⟩
 refine tkU 0 (h:=tkU 1 (h:=tkU 2 (h:=tkV 3 ?_)));try simp only [zP]
 refine tkU 4 (h:=tkU 5 (h:=tkU 6 (h:=tkV 7 ?_)));try simp only [zP]
 refine tkU 8 (h:=tkV 9 ?_);try simp only [zP]
 refine rdW 10 rfl fun K hK => ?_;simp only [zQ];go_simp;refine hK.out _ _ ?_ fun hJ2 => ?_
 ·exact (G3o.put 2 _ (by omega) (by omega) (G3o.put 1 _ (by omega) (by omega) (G3o.put 0 _ (by omega) (by omega) hJ1)))
 clear hK K;try simp only [zP]
 refine wpAnyH_done (by kernel_rfl) ?_ _;have hk2 := hJ2.1;clear hJ1 hJ2;go_wp2
 obtain ⟨e0,e1,e2⟩ := y0b (v0 := I x) (v1 := I y) (v2 := I z) c0 c1 c2;exact bodyPost_ret (v := .agg #[I x,I y,I z]) (by simp [results,Tryz.results53,go_sem,e0,e1,e2]) rfl ⟨rfl,hk2⟩
def OS (wB : World) (y : Nat) (m : Ex) (w : World) : Prop :=
 Kept wB w ∧ (w.cell? ⟨wB.heap.size,0,none⟩ = some (J U m.x) ∧ w.cell? ⟨wB.heap.size,1,none⟩ = some (J U m.y) ∧ w.cell? ⟨wB.heap.size,2,none⟩ = some (J U m.z)) ∧
 (∀ i,w.frozen? ⟨wB.heap.size,i,none⟩ = false) ∧ w.cell? ⟨y,0,none⟩ = some (.bool true) ∧ w.cell? ⟨y,1,none⟩ = some (.bool false)
theorem OS.step {w' : World} (k : Kept w w') (h : OS wB y m w) : OS wB y m w' :=
 ⟨h.1.trans k,⟨y00 k h.2.1.1,y00 k h.2.1.2.1,y00 k h.2.1.2.2⟩,fun i => y01 k (h.2.2.1 i),y00 k h.2.2.2.1,y00 k h.2.2.2.2⟩
theorem OS.put (h : OS wB y m w) (hne : wB.heap.size ≠ y) (c : Ex) :
  OS wB y c (((w.setCell (Y wB.heap.size 0) (I c.x)).setCell (Y wB.heap.size 1) (I c.y)).setCell (Y wB.heap.size 2) (I c.z)) := by
 have n1 : ∀ i j : Nat,(Y wB.heap.size i) ≠ (Y y j) := fun i j e => hne (by injection e);obtain ⟨hk,⟨c0,c1,c2⟩,hf,y0,y1⟩ := h;refine ⟨y07 hk (Nat.le_refl _) _ _ _,y0b c0 c1 c2,fun i => (zrb _ _ _ _).trans ((zrb _ _ _ _).trans ((zrb _ _ _ _).trans (hf i))),?_,?_⟩
 ·exact (zra _ _ _ _ (n1 2 0)).trans ((zra _ _ _ _ (n1 1 0)).trans ((zra _ _ _ _ (n1 0 0)).trans y0))
 ·exact (zra _ _ _ _ (n1 2 1)).trans ((zra _ _ _ _ (n1 1 1)).trans ((zra _ _ _ _ (n1 0 1)).trans y1))
theorem OS.anew (h : OS wB y m w) (t : TypeId) : OS wB w.heap.size m (w.alloc (.cells #[.bool true,.bool false] t)) := by
 have k : Kept w (w.alloc (.cells #[.bool true,.bool false] t)) := (Kept.refl w).alloc _ _;exact ⟨h.1.trans k,⟨y00 k h.2.1.1,y00 k h.2.1.2.1,y00 k h.2.1.2.2⟩,fun i => y01 k (h.2.2.1 i),by go_simp,by go_simp⟩
theorem OS.ne (h : OS wB y m w) : wB.heap.size ≠ w.heap.size := Nat.ne_of_lt (World.block_lt_of_cell? _ _ h.2.1.1)
theorem yh2 (v : Int) (c0 : Zc w b 0 0) (c1 : Zc w b 1 0) (c2 : Zc w b 2 0) : Row3 b v 0 0 (w.setCell (Y b 0) (I v)).drew :=
 ⟨y00 kd (World.cell?_setCell_same _ _ _ c0),y00 kd ((zra _ _ _ _ (fun e => by injection e with _ e; exact absurd e (by decide))).trans c1),y00 kd ((zra _ _ _ _ (fun e => by injection e with _ e; exact absurd e (by decide))).trans c2)⟩
theorem ygr (v : Int) (c0 : Zc w b 0 0) (c1 : Zc w b 1 0) (c2 : Zc w b 2 0) : Row3 b 0 v 0 (w.setCell (Y b 1) (I v)).drew :=
 ⟨y00 kd ((zra _ _ _ _ (fun e => by injection e with _ e; exact absurd e (by decide))).trans c0),y00 kd (World.cell?_setCell_same _ _ _ c1),y00 kd ((zra _ _ _ _ (fun e => by injection e with _ e; exact absurd e (by decide))).trans c2)⟩
theorem ygu (v : Int) (c0 : Zc w b 0 0) (c1 : Zc w b 1 0) (c2 : Zc w b 2 0) : Row3 b 0 0 v (w.setCell (Y b 2) (I v)).drew :=
 ⟨y00 kd ((zra _ _ _ _ (fun e => by injection e with _ e; exact absurd e (by decide))).trans c0),y00 kd ((zra _ _ _ _ (fun e => by injection e with _ e; exact absurd e (by decide))).trans c1),y00 kd (World.cell?_setCell_same _ _ _ c2)⟩
theorem y77 (a0 a1 a2 a3 a4 a5 b0 b1 b2 b3 b4 b5 : Int) (w : World) : Calls Tryz.prog 100 #[.agg #[I a0,I a1,I a2,I a3,I a4,I a5],.agg #[I b0,I b1,I b2,I b3,I b4,I b5]] w fun e w' => e = .returned (.tuple #[.agg #[I ((outE a0 a1 a2 a3 a4 a5 b0 b1 b2 b3 b4 b5).x),I ((outE a0 a1 a2 a3 a4 a5 b0 b1 b2 b3 b4 b5).y),I ((outE a0 a1 a2 a3 a4 a5 b0 b1 b2 b3 b4 b5).z)],I ((outE a0 a1 a2 a3 a4 a5 b0 b1 b2 b3 b4 b5).d)]) ∧ Kept w w' := by
 go_enter Tryz.func100,Tryz.ntmps100
 go_wp2
 refine wp_region_held_drew (S := (fun w' => Kept w w' ∧ Zc w' w.heap.size 0 a0 ∧ Zc w' w.heap.size 1 a1 ∧ Zc w' w.heap.size 2 a2 ∧ Zc w' w.heap.size 3 a3 ∧ Zc w' w.heap.size 4 a4 ∧ Zc w' w.heap.size 5 a5 ∧ Zc w' (w.heap.size + 1) 0 b0 ∧ Zc w' (w.heap.size + 1) 1 b1 ∧ Zc w' (w.heap.size + 1) 2 b2 ∧ Zc w' (w.heap.size + 1) 3 b3 ∧ Zc w' (w.heap.size + 1) 4 b4 ∧ Zc w' (w.heap.size + 1) 5 b5)) (by kernel_rfl) ?_ (fun hJ1 => ?_)
 ·exact G66.drew (by refine ⟨(((Kept.refl w).alloc _ _).alloc _ _).alloc _ _,?_,?_,?_,?_,?_,?_,?_,?_,?_,?_,?_,?_⟩ <;> go_simp)
 refine tkU 0 (h:=tkU 1 (h:=tkU 3 (h:=tkV 4 ?_)));try simp only [zP]
 refine tkU 6 (h:=tkU 7 (h:=tkU 9 (h:=tkV 10 ?_)));try simp only [zP]
 refine rdW 2 rfl fun K hK => ?_;simp only [zQ];go_simp
 (go_at_call 52; refine (y0g _ _ _ _).mono ?_; rintro e w1 ⟨q0,rfl,k1,r0⟩)
 try go_wp2_with fail
 refine hK.out _ _ ?_ fun hJ2 => ?_
 ·exact G66.step k1 hJ1
 clear hK K hJ1;try simp only [zP]
 refine rdW 5 rfl fun K hK => ?_;simp only [zQ];go_simp
 (go_at_call 52; refine (y0g _ _ _ _).mono ?_; rintro e w2 ⟨q1,rfl,k2,r1⟩)
 try go_wp2_with fail
 refine hK.out _ _ ?_ fun hJ3 => ?_
 ·exact G66.step k2 hJ2
 clear hK K hJ2;try simp only [zP]
 refine rdW 8 rfl fun K hK => ?_;simp only [zQ];go_simp
 (go_at_call 52; refine (y0g _ _ _ _).mono ?_; rintro e w3 ⟨q2,rfl,k3,r2⟩)
 try go_wp2_with fail
 refine hK.out _ _ ?_ fun hJ4 => ?_
 ·exact G66.step k3 hJ3
 clear hK K hJ3;try simp only [zP]
 refine rdW 11 rfl fun K hK => ?_;simp only [zQ];go_simp
 (go_at_call 52; refine (y0g _ _ _ _).mono ?_; rintro e w4 ⟨q3,rfl,k4,r3⟩)
 try go_wp2_with fail
 refine hK.out _ _ ?_ fun hJ5 => ?_
 ·exact G66.step k4 hJ4
 clear hK K hJ4;try simp only [zP]
 refine tkU 12 (h:=tkU 13 (h:=tkU 14 (h:=tkV 15 ?_)));try simp only [zP]
 refine wpAnyH_done (by kernel_rfl) ?_ _;have hk : Kept w w4 := hJ5.1;have rc0 : Aside (w4.cell? (Y (w.heap.size + 1 + 1) 0) = some (I 0)) := y00 k4 (y00 k3 (y00 k2 (y00 k1 (by go_simp))));have rc1 : Aside (w4.cell? (Y (w.heap.size + 1 + 1) 1) = some (I 0)) := y00 k4 (y00 k3 (y00 k2 (y00 k1 (by go_simp))));have rc2 : Aside (w4.cell? (Y (w.heap.size + 1 + 1) 2) = some (I 0)) := y00 k4 (y00 k3 (y00 k2 (y00 k1 (by go_simp))));have rf : Aside (∀ i,w4.frozen? (Y (w.heap.size + 1 + 1) i) = false) := fun i => y01 k4 (y01 k3 (y01 k2 (y01 k1 (by go_simp))));have R0 : Aside (Row3 q0 a0 a1 a2 w4) := (r0.step k2).step (k3.trans k4);have R1 : Aside (Row3 q1 a3 a4 a5 w4) := r1.step (k3.trans k4);have R2 : Aside (Row3 q2 b0 b1 b2 w4) := r2.step k4;have R3 : Aside (Row3 q3 b3 b4 b5 w4) := r3;clear r0 r1 r2 r3 k1 k2 k3 k4 hJ5;go_wp2
 refine wp_loop_rounds 4 ?_;rw [rounds_succ];go_wp2
 have HO : OS w4 (w4.heap.size + 1) ⟨0,0,0,0⟩ ((w4.alloc (.cells #[I 0,I 0,I 0] 23)).alloc (.cells #[.bool true,.bool false] 4)) := ⟨((Kept.refl _).alloc _ _).alloc _ _,⟨by go_simp,by go_simp,by go_simp⟩,fun i => by go_simp,by go_simp,by go_simp⟩;obtain ⟨y0,hy0⟩ : ∃ y,y = w4.heap.size + 1 := ⟨_,rfl⟩;have hne : w4.heap.size ≠ y0 := by omega
 rw [← hy0] at HO;simp only [← hy0];clear hy0;generalize ((w4.alloc (.cells #[I 0,I 0,I 0] 23)).alloc (.cells #[.bool true,.bool false] 4)) = wk0 at HO ⊢;refine wp_loop_rounds 3 ?_;rw [rounds_succ];go_upto_block 3 with fail
 go_cut [11,12] from 36 (fun s11 s12 wc => ∃ m : Ex,s11 = I m.d ∧ s12 = .bool true ∧ OS w4 y0 m wc ∧ Aside (m = (pickE ⟨65536,0,0,sub a3 b0⟩ ⟨-65536,0,0,sub b3 a0⟩ ⟨0,65536,0,sub a4 b1⟩ ⟨0,-65536,0,sub b4 a1⟩ ⟨0,0,65536,sub a5 b2⟩ ⟨0,0,-65536,sub b5 a2⟩ 0)))
 case first =>
  have xA := y00 HO.1 R1.out.1;have xB := y00 HO.1 R2.out.1;have HO0 : Aside (OS w4 y0 ⟨0,0,0,0⟩ wk0) := HO;obtain ⟨_,_,_,yc0,yc1⟩ := HO;go_wp2
  have z0 : (wk0.alloc (.cells #[I 0,I 0,I 0] 3)).cell? (Y wk0.heap.size 0) = some (I 0) := by go_simp
  have z1 : (wk0.alloc (.cells #[I 0,I 0,I 0] 3)).cell? (Y wk0.heap.size 1) = some (I 0) := by go_simp
  have z2 : (wk0.alloc (.cells #[I 0,I 0,I 0] 3)).cell? (Y wk0.heap.size 2) = some (I 0) := by go_simp
  have zf : (wk0.alloc (.cells #[I 0,I 0,I 0] 3)).frozen? (Y wk0.heap.size 0) = false := by go_simp
  have kz : Kept wk0 (wk0.alloc (.cells #[I 0,I 0,I 0] 3)) := (Kept.refl _).alloc _ _;generalize (wk0.alloc (.cells #[I 0,I 0,I 0] 3)) = wz at z0 z1 z2 zf kz ⊢;refine wp_region_held_drew (S := (fun w' => Kept wk0 w' ∧ Zc w' q1 0 a3 ∧ Zc w' q2 0 b0)) (by kernel_rfl) ?_ (fun hJ1 => ?_)
  ·exact ⟨kz.drew,y00 kz.drew xA,y00 kz.drew xB⟩
  refine tkU 0 (h:=tkU 1 (h:=tkU 2 (h:=tkV 3 ?_)));try simp only [zP]
  refine tkU 4 (h:=tkU 5 (h:=tkU 6 (h:=tkV 7 ?_)));try simp only [zP]
  refine tkU 8 (h:=tkV 9 ?_);try simp only [zP]
  refine rdW 10 rfl fun K hK => ?_;simp only [zQ];go_simp
  (go_at_call 87; refine (y0x _ _ _).mono ?_; rintro e w1 ⟨rfl,rfl⟩)
  try go_wp2_with fail
  refine hK.out _ _ ?_ fun hJ2 => ?_
  ·exact hJ1
  clear hK K hJ1;try simp only [zP]
  refine tkV 11 ?_;try simp only [zP]
  refine rdW 12 rfl fun K hK => ?_;simp only [zQ];go_simp;refine hK.out _ _ ?_ fun hJ3 => ?_
  ·exact ⟨(hJ2.1.setCell (p := Y wk0.heap.size 0) (Nat.le_refl _) _),y00 (hJ2.1.setCell (p := Y wk0.heap.size 0) (Nat.le_refl _) _) xA,y00 (hJ2.1.setCell (p := Y wk0.heap.size 0) (Nat.le_refl _) _) xB⟩
  clear hK K;try simp only [zP]
  refine tkV 13 ?_;try simp only [zP]
  refine wpAnyH_done (by kernel_rfl) ?_ _;have kq := hJ3.1;have rz := yh2 65536 z0 z1 z2;generalize (wz.setCell (Y wk0.heap.size 0) (I 65536)).drew = wq at kq rz ⊢;clear hJ2 hJ3 z0 z1 z2 zf kz xA xB yc0 yc1;go_wp2_with fail
  refine (y3r wk0.heap.size _ _ _ _ rz).mono ?_; rintro e w5 ⟨rfl,k5⟩;have HO5 : Aside (OS w4 y0 ⟨0,0,0,0⟩ w5) := HO0.out.step (kq.trans k5);obtain ⟨_,⟨c0,c1,c2⟩,cf,_,_⟩ := HO5.out;have cf0 := cf 0;have cf1 := cf 1;have cf2 := cf 2;clear cf;go_wp2
  go_meet
  case rel => exact ⟨⟨65536,0,0,sub a3 b0⟩,rfl,rfl,HO5.out.put hne ⟨65536,0,0,sub a3 b0⟩,rfl⟩
 case rest =>
  clear HO;obtain ⟨m,rfl,rfl,HO,hm⟩ := hcut;obtain ⟨wr0,hwr⟩ : ∃ x,x = wc := ⟨_,rfl⟩;subst hwr;go_wp2
  rw [rounds_succ];go_upto_block 3 with fail
  go_cut [11,12] from 36 (fun s11 s12 wc => ∃ m : Ex,s11 = I m.d ∧ s12 = .bool true ∧ OS w4 y0 m wc ∧ Aside (m = (pickE ⟨65536,0,0,sub a3 b0⟩ ⟨-65536,0,0,sub b3 a0⟩ ⟨0,65536,0,sub a4 b1⟩ ⟨0,-65536,0,sub b4 a1⟩ ⟨0,0,65536,sub a5 b2⟩ ⟨0,0,-65536,sub b5 a2⟩ 1)))
  case first =>
   have xA := y00 HO.1 R3.out.1;have xB := y00 HO.1 R0.out.1;have HO0 : Aside (OS w4 y0 m wr0) := HO;obtain ⟨_,_,_,yc0,yc1⟩ := HO;go_wp2
   have z0 : (wr0.alloc (.cells #[I 0,I 0,I 0] 3)).cell? (Y wr0.heap.size 0) = some (I 0) := by go_simp
   have z1 : (wr0.alloc (.cells #[I 0,I 0,I 0] 3)).cell? (Y wr0.heap.size 1) = some (I 0) := by go_simp
   have z2 : (wr0.alloc (.cells #[I 0,I 0,I 0] 3)).cell? (Y wr0.heap.size 2) = some (I 0) := by go_simp
   have zf : (wr0.alloc (.cells #[I 0,I 0,I 0] 3)).frozen? (Y wr0.heap.size 0) = false := by go_simp
   have kz : Kept wr0 (wr0.alloc (.cells #[I 0,I 0,I 0] 3)) := (Kept.refl _).alloc _ _;generalize (wr0.alloc (.cells #[I 0,I 0,I 0] 3)) = wz at z0 z1 z2 zf kz ⊢;refine wp_region_held_drew (S := (fun w' => Kept wr0 w' ∧ Zc w' q3 0 b3 ∧ Zc w' q0 0 a0)) (by kernel_rfl) ?_ (fun hJ1 => ?_)
   ·exact ⟨kz.drew,y00 kz.drew xA,y00 kz.drew xB⟩
   refine tkU 0 (h:=tkU 1 (h:=tkU 2 (h:=tkV 3 ?_)));try simp only [zP]
   refine tkU 4 (h:=tkU 5 (h:=tkU 6 (h:=tkV 7 ?_)));try simp only [zP]
   refine tkU 8 (h:=tkV 9 ?_);try simp only [zP]
   refine rdW 10 rfl fun K hK => ?_;simp only [zQ];go_simp
   (go_at_call 87; refine (y0x _ _ _).mono ?_; rintro e w1 ⟨rfl,rfl⟩)
   try go_wp2_with fail
   refine hK.out _ _ ?_ fun hJ2 => ?_
   ·exact hJ1
   clear hK K hJ1;try simp only [zP]
   refine tkV 11 ?_;try simp only [zP]
   refine rdW 12 rfl fun K hK => ?_;simp only [zQ];go_simp;refine hK.out _ _ ?_ fun hJ3 => ?_
   ·exact ⟨(hJ2.1.setCell (p := Y wr0.heap.size 0) (Nat.le_refl _) _),y00 (hJ2.1.setCell (p := Y wr0.heap.size 0) (Nat.le_refl _) _) xA,y00 (hJ2.1.setCell (p := Y wr0.heap.size 0) (Nat.le_refl _) _) xB⟩
   clear hK K;try simp only [zP]
   refine tkV 13 ?_;try simp only [zP]
   refine wpAnyH_done (by kernel_rfl) ?_ _;have kq := hJ3.1;have rz := yh2 (-65536) z0 z1 z2;generalize (wz.setCell (Y wr0.heap.size 0) (I (-65536))).drew = wq at kq rz ⊢;clear hJ2 hJ3 z0 z1 z2 zf kz xA xB yc0 yc1
   cases hd : decide (sub b3 a0 < m.d) with
   | true =>
    go_wp2_with fail
    refine (y3r wr0.heap.size _ _ _ _ rz).mono ?_; rintro e w5 ⟨rfl,k5⟩;have HO5 : Aside (OS w4 y0 m w5) := HO0.out.step (kq.trans k5);obtain ⟨_,⟨c0,c1,c2⟩,cf,_,_⟩ := HO5.out;have cf0 := cf 0;have cf1 := cf 1;have cf2 := cf 2;clear cf;go_wp2
    go_meet
    case rel => exact ⟨⟨-65536,0,0,sub b3 a0⟩,rfl,rfl,HO5.out.put hne ⟨-65536,0,0,sub b3 a0⟩,(y54 (q := (pickE ⟨65536,0,0,sub a3 b0⟩ ⟨-65536,0,0,sub b3 a0⟩ ⟨0,65536,0,sub a4 b1⟩ ⟨0,-65536,0,sub b4 a1⟩ ⟨0,0,65536,sub a5 b2⟩ ⟨0,0,-65536,sub b5 a2⟩ 0)) (c := ⟨-65536,0,0,sub b3 a0⟩) hm.out (of_decide_eq_true hd)).symm⟩
   | false =>
    go_wp2
    go_meet
    case rel => exact ⟨m,rfl,rfl,HO0.out.step kq,(y57 (q := (pickE ⟨65536,0,0,sub a3 b0⟩ ⟨-65536,0,0,sub b3 a0⟩ ⟨0,65536,0,sub a4 b1⟩ ⟨0,-65536,0,sub b4 a1⟩ ⟨0,0,65536,sub a5 b2⟩ ⟨0,0,-65536,sub b5 a2⟩ 0)) (c := ⟨-65536,0,0,sub b3 a0⟩) hm.out (of_decide_eq_false hd)).symm⟩
  case rest =>
   clear HO hm;obtain ⟨m,rfl,rfl,HO,hm⟩ := hcut;obtain ⟨wr1,hwr⟩ : ∃ x,x = wc := ⟨_,rfl⟩;subst hwr;go_wp2
   rw [rounds_succ];go_wp2
   rw [rounds_succ];go_wp2
   have HO2 := HO.anew 4;have hne2 := HO.ne;obtain ⟨y2,hy2⟩ : ∃ y,y = wr1.heap.size := ⟨_,rfl⟩;rw [← hy2] at HO2 hne2;simp only [← hy2];clear hy2 HO hne;generalize (wr1.alloc (.cells #[.bool true,.bool false] 4)) = wk2 at HO2 ⊢;have HO := HO2;have hne := hne2;clear HO2 hne2;refine wp_loop_rounds 3 ?_;rw [rounds_succ];go_upto_block 3 with fail
   go_cut [11,12] from 36 (fun s11 s12 wc => ∃ m : Ex,s11 = I m.d ∧ s12 = .bool true ∧ OS w4 y2 m wc ∧ Aside (m = (pickE ⟨65536,0,0,sub a3 b0⟩ ⟨-65536,0,0,sub b3 a0⟩ ⟨0,65536,0,sub a4 b1⟩ ⟨0,-65536,0,sub b4 a1⟩ ⟨0,0,65536,sub a5 b2⟩ ⟨0,0,-65536,sub b5 a2⟩ 2)))
   case first =>
    have xA := y00 HO.1 R1.out.2.1;have xB := y00 HO.1 R2.out.2.1;have HO0 : Aside (OS w4 y2 m wk2) := HO;obtain ⟨_,_,_,yc0,yc1⟩ := HO;go_wp2
    have z0 : (wk2.alloc (.cells #[I 0,I 0,I 0] 3)).cell? (Y wk2.heap.size 0) = some (I 0) := by go_simp
    have z1 : (wk2.alloc (.cells #[I 0,I 0,I 0] 3)).cell? (Y wk2.heap.size 1) = some (I 0) := by go_simp
    have z2 : (wk2.alloc (.cells #[I 0,I 0,I 0] 3)).cell? (Y wk2.heap.size 2) = some (I 0) := by go_simp
    have zf : (wk2.alloc (.cells #[I 0,I 0,I 0] 3)).frozen? (Y wk2.heap.size 1) = false := by go_simp
    have kz : Kept wk2 (wk2.alloc (.cells #[I 0,I 0,I 0] 3)) := (Kept.refl _).alloc _ _;generalize (wk2.alloc (.cells #[I 0,I 0,I 0] 3)) = wz at z0 z1 z2 zf kz ⊢;refine wp_region_held_drew (S := (fun w' => Kept wk2 w' ∧ Zc w' q1 1 a4 ∧ Zc w' q2 1 b1)) (by kernel_rfl) ?_ (fun hJ1 => ?_)
    ·exact ⟨kz.drew,y00 kz.drew xA,y00 kz.drew xB⟩
    refine tkU 0 (h:=tkU 1 (h:=tkU 2 (h:=tkV 3 ?_)));try simp only [zP]
    refine tkU 4 (h:=tkU 5 (h:=tkU 6 (h:=tkV 7 ?_)));try simp only [zP]
    refine tkU 8 (h:=tkV 9 ?_);try simp only [zP]
    refine rdW 10 rfl fun K hK => ?_;simp only [zQ];go_simp
    (go_at_call 87; refine (y0x _ _ _).mono ?_; rintro e w1 ⟨rfl,rfl⟩)
    try go_wp2_with fail
    refine hK.out _ _ ?_ fun hJ2 => ?_
    ·exact hJ1
    clear hK K hJ1;try simp only [zP]
    refine tkV 11 ?_;try simp only [zP]
    refine rdW 12 rfl fun K hK => ?_;simp only [zQ];go_simp;refine hK.out _ _ ?_ fun hJ3 => ?_
    ·exact ⟨(hJ2.1.setCell (p := Y wk2.heap.size 1) (Nat.le_refl _) _),y00 (hJ2.1.setCell (p := Y wk2.heap.size 1) (Nat.le_refl _) _) xA,y00 (hJ2.1.setCell (p := Y wk2.heap.size 1) (Nat.le_refl _) _) xB⟩
    clear hK K;try simp only [zP]
    refine tkV 13 ?_;try simp only [zP]
    refine wpAnyH_done (by kernel_rfl) ?_ _;have kq := hJ3.1;have rz := ygr 65536 z0 z1 z2;generalize (wz.setCell (Y wk2.heap.size 1) (I 65536)).drew = wq at kq rz ⊢;clear hJ2 hJ3 z0 z1 z2 zf kz xA xB yc0 yc1
    cases hd : decide (sub a4 b1 < m.d) with
    | true =>
     go_wp2_with fail
     refine (y3r wk2.heap.size _ _ _ _ rz).mono ?_; rintro e w5 ⟨rfl,k5⟩;have HO5 : Aside (OS w4 y2 m w5) := HO0.out.step (kq.trans k5);obtain ⟨_,⟨c0,c1,c2⟩,cf,_,_⟩ := HO5.out;have cf0 := cf 0;have cf1 := cf 1;have cf2 := cf 2;clear cf;go_wp2
     go_meet
     case rel => exact ⟨⟨0,65536,0,sub a4 b1⟩,rfl,rfl,HO5.out.put hne ⟨0,65536,0,sub a4 b1⟩,(y54 (q := (pickE ⟨65536,0,0,sub a3 b0⟩ ⟨-65536,0,0,sub b3 a0⟩ ⟨0,65536,0,sub a4 b1⟩ ⟨0,-65536,0,sub b4 a1⟩ ⟨0,0,65536,sub a5 b2⟩ ⟨0,0,-65536,sub b5 a2⟩ 1)) (c := ⟨0,65536,0,sub a4 b1⟩) hm.out (of_decide_eq_true hd)).symm⟩
    | false =>
     go_wp2
     go_meet
     case rel => exact ⟨m,rfl,rfl,HO0.out.step kq,(y57 (q := (pickE ⟨65536,0,0,sub a3 b0⟩ ⟨-65536,0,0,sub b3 a0⟩ ⟨0,65536,0,sub a4 b1⟩ ⟨0,-65536,0,sub b4 a1⟩ ⟨0,0,65536,sub a5 b2⟩ ⟨0,0,-65536,sub b5 a2⟩ 1)) (c := ⟨0,65536,0,sub a4 b1⟩) hm.out (of_decide_eq_false hd)).symm⟩
   case rest =>
    clear HO hm;obtain ⟨m,rfl,rfl,HO,hm⟩ := hcut;obtain ⟨wr2,hwr⟩ : ∃ x,x = wc := ⟨_,rfl⟩;subst hwr;go_wp2
    rw [rounds_succ];go_upto_block 3 with fail
    go_cut [11,12] from 36 (fun s11 s12 wc => ∃ m : Ex,s11 = I m.d ∧ s12 = .bool true ∧ OS w4 y2 m wc ∧ Aside (m = (pickE ⟨65536,0,0,sub a3 b0⟩ ⟨-65536,0,0,sub b3 a0⟩ ⟨0,65536,0,sub a4 b1⟩ ⟨0,-65536,0,sub b4 a1⟩ ⟨0,0,65536,sub a5 b2⟩ ⟨0,0,-65536,sub b5 a2⟩ 3)))
    case first =>
     have xA := y00 HO.1 R3.out.2.1;have xB := y00 HO.1 R0.out.2.1;have HO0 : Aside (OS w4 y2 m wr2) := HO;obtain ⟨_,_,_,yc0,yc1⟩ := HO;go_wp2
     have z0 : (wr2.alloc (.cells #[I 0,I 0,I 0] 3)).cell? (Y wr2.heap.size 0) = some (I 0) := by go_simp
     have z1 : (wr2.alloc (.cells #[I 0,I 0,I 0] 3)).cell? (Y wr2.heap.size 1) = some (I 0) := by go_simp
     have z2 : (wr2.alloc (.cells #[I 0,I 0,I 0] 3)).cell? (Y wr2.heap.size 2) = some (I 0) := by go_simp
     have zf : (wr2.alloc (.cells #[I 0,I 0,I 0] 3)).frozen? (Y wr2.heap.size 1) = false := by go_simp
     have kz : Kept wr2 (wr2.alloc (.cells #[I 0,I 0,I 0] 3)) := (Kept.refl _).alloc _ _;generalize (wr2.alloc (.cells #[I 0,I 0,I 0] 3)) = wz at z0 z1 z2 zf kz ⊢;refine wp_region_held_drew (S := (fun w' => Kept wr2 w' ∧ Zc w' q3 1 b4 ∧ Zc w' q0 1 a1)) (by kernel_rfl) ?_ (fun hJ1 => ?_)
     ·exact ⟨kz.drew,y00 kz.drew xA,y00 kz.drew xB⟩
     refine tkU 0 (h:=tkU 1 (h:=tkU 2 (h:=tkV 3 ?_)));try simp only [zP]
     refine tkU 4 (h:=tkU 5 (h:=tkU 6 (h:=tkV 7 ?_)));try simp only [zP]
     refine tkU 8 (h:=tkV 9 ?_);try simp only [zP]
     refine rdW 10 rfl fun K hK => ?_;simp only [zQ];go_simp
     (go_at_call 87; refine (y0x _ _ _).mono ?_; rintro e w1 ⟨rfl,rfl⟩)
     try go_wp2_with fail
     refine hK.out _ _ ?_ fun hJ2 => ?_
     ·exact hJ1
     clear hK K hJ1;try simp only [zP]
     refine tkV 11 ?_;try simp only [zP]
     refine rdW 12 rfl fun K hK => ?_;simp only [zQ];go_simp;refine hK.out _ _ ?_ fun hJ3 => ?_
     ·exact ⟨(hJ2.1.setCell (p := Y wr2.heap.size 1) (Nat.le_refl _) _),y00 (hJ2.1.setCell (p := Y wr2.heap.size 1) (Nat.le_refl _) _) xA,y00 (hJ2.1.setCell (p := Y wr2.heap.size 1) (Nat.le_refl _) _) xB⟩
     clear hK K;try simp only [zP]
     refine tkV 13 ?_;try simp only [zP]
     refine wpAnyH_done (by kernel_rfl) ?_ _;have kq := hJ3.1;have rz := ygr (-65536) z0 z1 z2;generalize (wz.setCell (Y wr2.heap.size 1) (I (-65536))).drew = wq at kq rz ⊢;clear hJ2 hJ3 z0 z1 z2 zf kz xA xB yc0 yc1
     cases hd : decide (sub b4 a1 < m.d) with
     | true =>
      go_wp2_with fail
      refine (y3r wr2.heap.size _ _ _ _ rz).mono ?_; rintro e w5 ⟨rfl,k5⟩;have HO5 : Aside (OS w4 y2 m w5) := HO0.out.step (kq.trans k5);obtain ⟨_,⟨c0,c1,c2⟩,cf,_,_⟩ := HO5.out;have cf0 := cf 0;have cf1 := cf 1;have cf2 := cf 2;clear cf;go_wp2
      go_meet
      case rel => exact ⟨⟨0,-65536,0,sub b4 a1⟩,rfl,rfl,HO5.out.put hne ⟨0,-65536,0,sub b4 a1⟩,(y54 (q := (pickE ⟨65536,0,0,sub a3 b0⟩ ⟨-65536,0,0,sub b3 a0⟩ ⟨0,65536,0,sub a4 b1⟩ ⟨0,-65536,0,sub b4 a1⟩ ⟨0,0,65536,sub a5 b2⟩ ⟨0,0,-65536,sub b5 a2⟩ 2)) (c := ⟨0,-65536,0,sub b4 a1⟩) hm.out (of_decide_eq_true hd)).symm⟩
     | false =>
      go_wp2
      go_meet
      case rel => exact ⟨m,rfl,rfl,HO0.out.step kq,(y57 (q := (pickE ⟨65536,0,0,sub a3 b0⟩ ⟨-65536,0,0,sub b3 a0⟩ ⟨0,65536,0,sub a4 b1⟩ ⟨0,-65536,0,sub b4 a1⟩ ⟨0,0,65536,sub a5 b2⟩ ⟨0,0,-65536,sub b5 a2⟩ 2)) (c := ⟨0,-65536,0,sub b4 a1⟩) hm.out (of_decide_eq_false hd)).symm⟩
    case rest =>
     clear HO hm;obtain ⟨m,rfl,rfl,HO,hm⟩ := hcut;obtain ⟨wr3,hwr⟩ : ∃ x,x = wc := ⟨_,rfl⟩;subst hwr;go_wp2
     rw [rounds_succ];go_wp2
     rw [rounds_succ];go_wp2
     have HO4 := HO.anew 4;have hne4 := HO.ne;obtain ⟨y4,hy4⟩ : ∃ y,y = wr3.heap.size := ⟨_,rfl⟩;rw [← hy4] at HO4 hne4;simp only [← hy4];clear hy4 HO hne;generalize (wr3.alloc (.cells #[.bool true,.bool false] 4)) = wk4 at HO4 ⊢;have HO := HO4;have hne := hne4;clear HO4 hne4;refine wp_loop_rounds 3 ?_;rw [rounds_succ];go_upto_block 3 with fail
     go_cut [11,12] from 36 (fun s11 s12 wc => ∃ m : Ex,s11 = I m.d ∧ s12 = .bool true ∧ OS w4 y4 m wc ∧ Aside (m = (pickE ⟨65536,0,0,sub a3 b0⟩ ⟨-65536,0,0,sub b3 a0⟩ ⟨0,65536,0,sub a4 b1⟩ ⟨0,-65536,0,sub b4 a1⟩ ⟨0,0,65536,sub a5 b2⟩ ⟨0,0,-65536,sub b5 a2⟩ 4)))
     case first =>
      have xA := y00 HO.1 R1.out.2.2;have xB := y00 HO.1 R2.out.2.2;have HO0 : Aside (OS w4 y4 m wk4) := HO;obtain ⟨_,_,_,yc0,yc1⟩ := HO;go_wp2
      have z0 : (wk4.alloc (.cells #[I 0,I 0,I 0] 3)).cell? (Y wk4.heap.size 0) = some (I 0) := by go_simp
      have z1 : (wk4.alloc (.cells #[I 0,I 0,I 0] 3)).cell? (Y wk4.heap.size 1) = some (I 0) := by go_simp
      have z2 : (wk4.alloc (.cells #[I 0,I 0,I 0] 3)).cell? (Y wk4.heap.size 2) = some (I 0) := by go_simp
      have zf : (wk4.alloc (.cells #[I 0,I 0,I 0] 3)).frozen? (Y wk4.heap.size 2) = false := by go_simp
      have kz : Kept wk4 (wk4.alloc (.cells #[I 0,I 0,I 0] 3)) := (Kept.refl _).alloc _ _;generalize (wk4.alloc (.cells #[I 0,I 0,I 0] 3)) = wz at z0 z1 z2 zf kz ⊢;refine wp_region_held_drew (S := (fun w' => Kept wk4 w' ∧ Zc w' q1 2 a5 ∧ Zc w' q2 2 b2)) (by kernel_rfl) ?_ (fun hJ1 => ?_)
      ·exact ⟨kz.drew,y00 kz.drew xA,y00 kz.drew xB⟩
      refine tkU 0 (h:=tkU 1 (h:=tkU 2 (h:=tkV 3 ?_)));try simp only [zP]
      refine tkU 4 (h:=tkU 5 (h:=tkU 6 (h:=tkV 7 ?_)));try simp only [zP]
      refine tkU 8 (h:=tkV 9 ?_);try simp only [zP]
      refine rdW 10 rfl fun K hK => ?_;simp only [zQ];go_simp
      (go_at_call 87; refine (y0x _ _ _).mono ?_; rintro e w1 ⟨rfl,rfl⟩)
      try go_wp2_with fail
      refine hK.out _ _ ?_ fun hJ2 => ?_
      ·exact hJ1
      clear hK K hJ1;try simp only [zP]
      refine tkV 11 ?_;try simp only [zP]
      refine rdW 12 rfl fun K hK => ?_;simp only [zQ];go_simp;refine hK.out _ _ ?_ fun hJ3 => ?_
      ·exact ⟨(hJ2.1.setCell (p := Y wk4.heap.size 2) (Nat.le_refl _) _),y00 (hJ2.1.setCell (p := Y wk4.heap.size 2) (Nat.le_refl _) _) xA,y00 (hJ2.1.setCell (p := Y wk4.heap.size 2) (Nat.le_refl _) _) xB⟩
      clear hK K;try simp only [zP]
      refine tkV 13 ?_;try simp only [zP]
      refine wpAnyH_done (by kernel_rfl) ?_ _;have kq := hJ3.1;have rz := ygu 65536 z0 z1 z2;generalize (wz.setCell (Y wk4.heap.size 2) (I 65536)).drew = wq at kq rz ⊢;clear hJ2 hJ3 z0 z1 z2 zf kz xA xB yc0 yc1
      cases hd : decide (sub a5 b2 < m.d) with
      | true =>
       go_wp2_with fail
       refine (y3r wk4.heap.size _ _ _ _ rz).mono ?_; rintro e w5 ⟨rfl,k5⟩;have HO5 : Aside (OS w4 y4 m w5) := HO0.out.step (kq.trans k5);obtain ⟨_,⟨c0,c1,c2⟩,cf,_,_⟩ := HO5.out;have cf0 := cf 0;have cf1 := cf 1;have cf2 := cf 2;clear cf;go_wp2
       go_meet
       case rel => exact ⟨⟨0,0,65536,sub a5 b2⟩,rfl,rfl,HO5.out.put hne ⟨0,0,65536,sub a5 b2⟩,(y54 (q := (pickE ⟨65536,0,0,sub a3 b0⟩ ⟨-65536,0,0,sub b3 a0⟩ ⟨0,65536,0,sub a4 b1⟩ ⟨0,-65536,0,sub b4 a1⟩ ⟨0,0,65536,sub a5 b2⟩ ⟨0,0,-65536,sub b5 a2⟩ 3)) (c := ⟨0,0,65536,sub a5 b2⟩) hm.out (of_decide_eq_true hd)).symm⟩
      | false =>
       go_wp2
       go_meet
       case rel => exact ⟨m,rfl,rfl,HO0.out.step kq,(y57 (q := (pickE ⟨65536,0,0,sub a3 b0⟩ ⟨-65536,0,0,sub b3 a0⟩ ⟨0,65536,0,sub a4 b1⟩ ⟨0,-65536,0,sub b4 a1⟩ ⟨0,0,65536,sub a5 b2⟩ ⟨0,0,-65536,sub b5 a2⟩ 3)) (c := ⟨0,0,65536,sub a5 b2⟩) hm.out (of_decide_eq_false hd)).symm⟩
     case rest =>
      clear HO hm;obtain ⟨m,rfl,rfl,HO,hm⟩ := hcut;obtain ⟨wr4,hwr⟩ : ∃ x,x = wc := ⟨_,rfl⟩;subst hwr;go_wp2
      rw [rounds_succ];go_upto_block 3 with fail
      go_cut [11,12] from 36 (fun s11 s12 wc => ∃ m : Ex,s11 = I m.d ∧ s12 = .bool true ∧ OS w4 y4 m wc ∧ Aside (m = (pickE ⟨65536,0,0,sub a3 b0⟩ ⟨-65536,0,0,sub b3 a0⟩ ⟨0,65536,0,sub a4 b1⟩ ⟨0,-65536,0,sub b4 a1⟩ ⟨0,0,65536,sub a5 b2⟩ ⟨0,0,-65536,sub b5 a2⟩ 5)))
      case first =>
       have xA := y00 HO.1 R3.out.2.2;have xB := y00 HO.1 R0.out.2.2;have HO0 : Aside (OS w4 y4 m wr4) := HO;obtain ⟨_,_,_,yc0,yc1⟩ := HO;go_wp2
       have z0 : (wr4.alloc (.cells #[I 0,I 0,I 0] 3)).cell? (Y wr4.heap.size 0) = some (I 0) := by go_simp
       have z1 : (wr4.alloc (.cells #[I 0,I 0,I 0] 3)).cell? (Y wr4.heap.size 1) = some (I 0) := by go_simp
       have z2 : (wr4.alloc (.cells #[I 0,I 0,I 0] 3)).cell? (Y wr4.heap.size 2) = some (I 0) := by go_simp
       have zf : (wr4.alloc (.cells #[I 0,I 0,I 0] 3)).frozen? (Y wr4.heap.size 2) = false := by go_simp
       have kz : Kept wr4 (wr4.alloc (.cells #[I 0,I 0,I 0] 3)) := (Kept.refl _).alloc _ _;generalize (wr4.alloc (.cells #[I 0,I 0,I 0] 3)) = wz at z0 z1 z2 zf kz ⊢;refine wp_region_held_drew (S := (fun w' => Kept wr4 w' ∧ Zc w' q3 2 b5 ∧ Zc w' q0 2 a2)) (by kernel_rfl) ?_ (fun hJ1 => ?_)
       ·exact ⟨kz.drew,y00 kz.drew xA,y00 kz.drew xB⟩
       refine tkU 0 (h:=tkU 1 (h:=tkU 2 (h:=tkV 3 ?_)));try simp only [zP]
       refine tkU 4 (h:=tkU 5 (h:=tkU 6 (h:=tkV 7 ?_)));try simp only [zP]
       refine tkU 8 (h:=tkV 9 ?_);try simp only [zP]
       refine rdW 10 rfl fun K hK => ?_;simp only [zQ];go_simp
       (go_at_call 87; refine (y0x _ _ _).mono ?_; rintro e w1 ⟨rfl,rfl⟩)
       try go_wp2_with fail
       refine hK.out _ _ ?_ fun hJ2 => ?_
       ·exact hJ1
       clear hK K hJ1;try simp only [zP]
       refine tkV 11 ?_;try simp only [zP]
       refine rdW 12 rfl fun K hK => ?_;simp only [zQ];go_simp;refine hK.out _ _ ?_ fun hJ3 => ?_
       ·exact ⟨(hJ2.1.setCell (p := Y wr4.heap.size 2) (Nat.le_refl _) _),y00 (hJ2.1.setCell (p := Y wr4.heap.size 2) (Nat.le_refl _) _) xA,y00 (hJ2.1.setCell (p := Y wr4.heap.size 2) (Nat.le_refl _) _) xB⟩
       clear hK K;try simp only [zP]
       refine tkV 13 ?_;try simp only [zP]
       refine wpAnyH_done (by kernel_rfl) ?_ _;have kq := hJ3.1;have rz := ygu (-65536) z0 z1 z2;generalize (wz.setCell (Y wr4.heap.size 2) (I (-65536))).drew = wq at kq rz ⊢;clear hJ2 hJ3 z0 z1 z2 zf kz xA xB yc0 yc1
       cases hd : decide (sub b5 a2 < m.d) with
       | true =>
        go_wp2_with fail
        refine (y3r wr4.heap.size _ _ _ _ rz).mono ?_; rintro e w5 ⟨rfl,k5⟩;have HO5 : Aside (OS w4 y4 m w5) := HO0.out.step (kq.trans k5);obtain ⟨_,⟨c0,c1,c2⟩,cf,_,_⟩ := HO5.out;have cf0 := cf 0;have cf1 := cf 1;have cf2 := cf 2;clear cf;go_wp2
        go_meet
        case rel => exact ⟨⟨0,0,-65536,sub b5 a2⟩,rfl,rfl,HO5.out.put hne ⟨0,0,-65536,sub b5 a2⟩,(y54 (q := (pickE ⟨65536,0,0,sub a3 b0⟩ ⟨-65536,0,0,sub b3 a0⟩ ⟨0,65536,0,sub a4 b1⟩ ⟨0,-65536,0,sub b4 a1⟩ ⟨0,0,65536,sub a5 b2⟩ ⟨0,0,-65536,sub b5 a2⟩ 4)) (c := ⟨0,0,-65536,sub b5 a2⟩) hm.out (of_decide_eq_true hd)).symm⟩
       | false =>
        go_wp2
        go_meet
        case rel => exact ⟨m,rfl,rfl,HO0.out.step kq,(y57 (q := (pickE ⟨65536,0,0,sub a3 b0⟩ ⟨-65536,0,0,sub b3 a0⟩ ⟨0,65536,0,sub a4 b1⟩ ⟨0,-65536,0,sub b4 a1⟩ ⟨0,0,65536,sub a5 b2⟩ ⟨0,0,-65536,sub b5 a2⟩ 4)) (c := ⟨0,0,-65536,sub b5 a2⟩) hm.out (of_decide_eq_false hd)).symm⟩
      case rest =>
       clear HO hm;obtain ⟨m,rfl,rfl,HO,hm⟩ := hcut;obtain ⟨wr5,hwr⟩ : ∃ x,x = wc := ⟨_,rfl⟩;subst hwr;go_wp2
       rw [rounds_succ];go_wp2
       rw [rounds_succ];have c0 := y00 HO.1 rc0.out;have c1 := y00 HO.1 rc1.out;have c2 := y00 HO.1 rc2.out;have f0 := y01 HO.1 (rf.out 0);have f1 := y01 HO.1 (rf.out 1);have f2 := y01 HO.1 (rf.out 2);have hkk := hk.trans HO.1;obtain ⟨_,⟨m0,m1,m2⟩,_,_,_⟩ := HO;go_wp2
       obtain ⟨e0,e1,e2⟩ := y0b (v0 := I m.x) (v1 := I m.y) (v2 := I m.z) c0 c1 c2;exact bodyPost_ret (v := .tuple #[.agg #[I m.x,I m.y,I m.z],I m.d]) (by simp [results,Tryz.results100,go_sem,e0,e1,e2]) rfl ⟨by rw [hm.out]; rfl,y07 hkk (by omega) _ _ _⟩
theorem y0j {k x y z : Int} : rightB k x y z = true ↔ (k = 1 ∧ (1 ≤ x ∧ x ≤ 3276800) ∧ y = 0 ∧ z = 0) ∨ (k = 2 ∧ (1 ≤ x ∧ x ≤ 3276800) ∧ (1 ≤ y ∧ y ≤ 3276800) ∧ 1 ≤ z ∧ z ≤ 3276800) := by
 unfold rightB sz;by_cases h : k = 1
 ·rw [if_pos h]; simp [h]
 ·rw [if_neg h]
  by_cases h2 : k = 2
  ·rw [if_pos h2]; simp [h2,and_assoc]
  ·rw [if_neg h2]; simp [h,h2]
theorem yb6 (k x y z : Int) (w : World) (h : Hid (k = 1)) : Calls Tryz.prog 36 #[.agg #[I k,I x,I y,I z]] w fun e w' => e = .returned (.bool (rightB k x y z)) ∧ Kept w w' := by
 have hb : (k == 1) = true := by simp [h.out]
 go_enter Tryz.func36,Tryz.ntmps36
 go_wp2
 have HA : G4At w.heap.size (I k) (I x) (I y) (I z) (w.alloc (.cells #[I k,I x,I y,I z] 43)) := by refine ⟨?_,?_,?_,?_⟩ <;> go_simp
 have hkA : Kept w (w.alloc (.cells #[I k,I x,I y,I z] 43)) := (Kept.refl w).alloc _ _;generalize (w.alloc (.cells #[I k,I x,I y,I z] 43)) = wA at HA hkA ⊢;refine wp_region_held_drew (S := (fun w' => Kept wA w' ∧ Zc w' w.heap.size 0 k ∧ Zc w' w.heap.size 1 x ∧ Zc w' w.heap.size 2 y ∧ Zc w' w.heap.size 3 z)) (by kernel_rfl) ?_ (fun hH0 => ?_)
 ·exact ⟨kd,HA.step kd⟩
 refine tkU 0 (h:=tkU 1 (h:=tkU 2 (h:=tkV 4 ?_)));try simp only [zP]
 refine tkU 5 (h:=tkU 6 (h:=tkU 7 (h:=tkV 8 ?_)));try simp only [zP]
 refine tkV 9 ?_;try simp only [zP]
 refine wpAnyH_ready (rs := [3,10]) (by kernel_rfl) (by simp) ?_;refine AllReadyH.cons rfl (fun K hK => ?_) (AllReadyH.cons rfl (fun K hK => ?_) AllReadyH.nil)
 ·rw [if_pos (by rfl)]
  simp only [zQ];go_simp;refine hK.out _ _ ?_ fun hH1 => ?_
  ·exact ⟨hH0.1.alloc _ _,HA.step (hH0.1.alloc _ _)⟩
  clear hK K hH0;try simp only [zP]
  refine tkV 11 ?_;try simp only [zP]
  refine rdW 10 rfl fun K hK => ?_;simp only [zQ];go_simp;refine hK.out _ _ ?_ fun hH2 => ?_
  ·exact ⟨hH1.1.alloc _ _,HA.step (hH1.1.alloc _ _)⟩
  clear hK K hH1;try simp only [zP]
  refine tkV 12 ?_;try simp only [zP]
  refine wpAnyH_done (by kernel_rfl) ?_ _;have hk := hkA.trans hH2.1;clear HA hkA hH2;go_wp2
  refine wp_loop_rounds 2 ?_;rw [rounds_succ];by_cases lx : x < 1
  ·go_wp2
   go_ret
   exact ⟨y0i (Eq.symm (by rw [Bool.eq_false_iff,ne_eq,y0j]; have h1 := h.out; clear h; (try simp only [bne_eq_false_iff_eq,bne_iff_ne,ne_eq] at *); omega)),hk⟩
  ·by_cases mx : 3276800 < x
   ·go_wp2
    go_ret
    exact ⟨y0i (Eq.symm (by rw [Bool.eq_false_iff,ne_eq,y0j]; have h1 := h.out; clear h; (try simp only [bne_eq_false_iff_eq,bne_iff_ne,ne_eq] at *); omega)),hk⟩
   ·go_wp2
    rw [rounds_succ];go_wp2
    refine wp_loop_rounds 3 ?_;rw [rounds_succ]
    cases oy : (y != 0) with
    | false =>
     go_wp2
     rw [rounds_succ]
     cases oz : (z != 0) with
     | false =>
      go_wp2
      rw [rounds_succ];go_wp2
      go_ret
      exact ⟨y0i (Eq.symm (by rw [y0j]; have h1 := h.out; clear h; (try simp only [bne_eq_false_iff_eq,bne_iff_ne,ne_eq] at *); omega)),hk⟩
     | true =>
      go_wp2
      go_ret
      exact ⟨y0i (Eq.symm (by rw [Bool.eq_false_iff,ne_eq,y0j]; have h1 := h.out; clear h; (try simp only [bne_eq_false_iff_eq,bne_iff_ne,ne_eq] at *); omega)),hk⟩
    | true =>
     go_wp2
     go_ret
     exact ⟨y0i (Eq.symm (by rw [Bool.eq_false_iff,ne_eq,y0j]; have h1 := h.out; clear h; (try simp only [bne_eq_false_iff_eq,bne_iff_ne,ne_eq] at *); omega)),hk⟩
 ·rw [if_pos (by rfl)]
  simp only [zQ];go_simp;refine hK.out _ _ ?_ fun hH1 => ?_
  ·exact ⟨hH0.1.alloc _ _,HA.step (hH0.1.alloc _ _)⟩
  clear hK K hH0;try simp only [zP]
  refine rdW 3 rfl fun K hK => ?_;simp only [zQ];go_simp;refine hK.out _ _ ?_ fun hH2 => ?_
  ·exact ⟨hH1.1.alloc _ _,HA.step (hH1.1.alloc _ _)⟩
  clear hK K hH1;try simp only [zP]
  refine tkU 11 (h:=tkV 12 ?_);try simp only [zP]
  refine wpAnyH_done (by kernel_rfl) ?_ _;have hk := hkA.trans hH2.1;clear HA hkA hH2;go_wp2
  refine wp_loop_rounds 2 ?_;rw [rounds_succ];by_cases lx : x < 1
  ·go_wp2
   go_ret
   exact ⟨y0i (Eq.symm (by rw [Bool.eq_false_iff,ne_eq,y0j]; have h1 := h.out; clear h; (try simp only [bne_eq_false_iff_eq,bne_iff_ne,ne_eq] at *); omega)),hk⟩
  ·by_cases mx : 3276800 < x
   ·go_wp2
    go_ret
    exact ⟨y0i (Eq.symm (by rw [Bool.eq_false_iff,ne_eq,y0j]; have h1 := h.out; clear h; (try simp only [bne_eq_false_iff_eq,bne_iff_ne,ne_eq] at *); omega)),hk⟩
   ·go_wp2
    rw [rounds_succ];go_wp2
    refine wp_loop_rounds 3 ?_;rw [rounds_succ]
    cases oy : (y != 0) with
    | false =>
     go_wp2
     rw [rounds_succ]
     cases oz : (z != 0) with
     | false =>
      go_wp2
      rw [rounds_succ];go_wp2
      go_ret
      exact ⟨y0i (Eq.symm (by rw [y0j]; have h1 := h.out; clear h; (try simp only [bne_eq_false_iff_eq,bne_iff_ne,ne_eq] at *); omega)),hk⟩
     | true =>
      go_wp2
      go_ret
      exact ⟨y0i (Eq.symm (by rw [Bool.eq_false_iff,ne_eq,y0j]; have h1 := h.out; clear h; (try simp only [bne_eq_false_iff_eq,bne_iff_ne,ne_eq] at *); omega)),hk⟩
    | true =>
     go_wp2
     go_ret
     exact ⟨y0i (Eq.symm (by rw [Bool.eq_false_iff,ne_eq,y0j]; have h1 := h.out; clear h; (try simp only [bne_eq_false_iff_eq,bne_iff_ne,ne_eq] at *); omega)),hk⟩
theorem y9j (k x y z : Int) (w : World) (h : Hid (k = 2)) : Calls Tryz.prog 36 #[.agg #[I k,I x,I y,I z]] w fun e w' => e = .returned (.bool (rightB k x y z)) ∧ Kept w w' := by
 have hb : (k == 1) = false := by simp [h.out]
 have hb2 : (k == 2) = true := by simp [h.out]
 go_enter Tryz.func36,Tryz.ntmps36
 go_wp2_with fail
 refine (y0g _ _ _ _).mono ?_; rintro e w1 ⟨q,rfl,k1,x0,y0,z0⟩;have hk := ((Kept.refl w).alloc _ _).trans k1;clear k1;go_wp2
 refine wp_loop_rounds 4 ?_;rw [rounds_succ];by_cases lx : x < 1
 ·go_wp2
  go_ret
  exact ⟨y0i (Eq.symm (by rw [Bool.eq_false_iff,ne_eq,y0j]; have h1 := h.out; clear h; (try simp only [bne_eq_false_iff_eq,bne_iff_ne,ne_eq] at *); omega)),hk⟩
 ·by_cases mx : 3276800 < x
  ·go_wp2
   go_ret
   exact ⟨y0i (Eq.symm (by rw [Bool.eq_false_iff,ne_eq,y0j]; have h1 := h.out; clear h; (try simp only [bne_eq_false_iff_eq,bne_iff_ne,ne_eq] at *); omega)),hk⟩
  ·go_wp2
   rw [rounds_succ];by_cases ly : y < 1
   ·go_wp2
    go_ret
    exact ⟨y0i (Eq.symm (by rw [Bool.eq_false_iff,ne_eq,y0j]; have h1 := h.out; clear h; (try simp only [bne_eq_false_iff_eq,bne_iff_ne,ne_eq] at *); omega)),hk⟩
   ·by_cases my : 3276800 < y
    ·go_wp2
     go_ret
     exact ⟨y0i (Eq.symm (by rw [Bool.eq_false_iff,ne_eq,y0j]; have h1 := h.out; clear h; (try simp only [bne_eq_false_iff_eq,bne_iff_ne,ne_eq] at *); omega)),hk⟩
    ·go_wp2
     rw [rounds_succ];by_cases lz : z < 1
     ·go_wp2
      go_ret
      exact ⟨y0i (Eq.symm (by rw [Bool.eq_false_iff,ne_eq,y0j]; have h1 := h.out; clear h; (try simp only [bne_eq_false_iff_eq,bne_iff_ne,ne_eq] at *); omega)),hk⟩
     ·by_cases mz : 3276800 < z
      ·go_wp2
       go_ret
       exact ⟨y0i (Eq.symm (by rw [Bool.eq_false_iff,ne_eq,y0j]; have h1 := h.out; clear h; (try simp only [bne_eq_false_iff_eq,bne_iff_ne,ne_eq] at *); omega)),hk⟩
      ·go_wp2
       rw [rounds_succ];go_wp2
       refine wp_loop_rounds 1 ?_;rw [rounds_succ];go_wp2
       go_ret
       exact ⟨y0i (Eq.symm (by rw [y0j]; have h1 := h.out; clear h; (try simp only [bne_eq_false_iff_eq,bne_iff_ne,ne_eq] at *); omega)),hk⟩
theorem y9c (k x y z : Int) (w : World) : Calls Tryz.prog 36 #[.agg #[I k,I x,I y,I z]] w fun e w' => e = .returned (.bool (rightB k x y z)) ∧ Kept w w' := by
 by_cases h : k = 1
 ·exact yb6 k x y z w h
 ·by_cases h2 : k = 2
  ·exact y9j k x y z w h2
  ·have hb : (k == 1) = false := by simp [h]
   have hb2 : (k == 2) = false := by simp [h2]
   go_enter Tryz.func36,Tryz.ntmps36
   go_wp2
   go_ret
   exact ⟨y0i (Eq.symm (by rw [Bool.eq_false_iff,ne_eq,y0j]; omega)),(Kept.refl _).alloc _ _⟩
end Go.Proofs.YtbenlgandjjopaaGreatDoor
