/- . -/
import Derived.Test.YtbenlgandjjopaaGreatDoorN4
open Go.Value renaming int → J
open Go.IntKind renaming i64 → U
open Go.World renaming cell?_setCell_other → zra,frozen?_setCell → zrb
namespace Go.Proofs.YtbenlgandjjopaaGreatDoor
set_option maxHeartbeats 4000000
open Go.ChangeShapes Go.WideShapes Go.ChangeAt Go.RowKit
set_option linter.unusedSimpArgs false
variable {w w1 w2 : World} {v0 v1 v2 v3 v4 v5 v6 v7 v8 v9 v10 v11 : Value} {b0 b1 b2 : Nat} {a b : Int}
theorem y8t {b : Nat} {u0 u1 u2 u3 u4 u5 : Value} (h0 : w.cell? (Y b 0) = some u0) (h1 : w.cell? (Y b 1) = some u1) (h2 : w.cell? (Y b 2) = some u2) (h3 : w.cell? (Y b 3) = some u3) (h4 : w.cell? (Y b 4) = some u4) (h5 : w.cell? (Y b 5) = some u5) :
  ((((((w.setCell (Y b 0) v0).setCell (Y b 1) v1).setCell (Y b 2) v2).setCell (Y b 3) v3).setCell (Y b 4) v4).setCell (Y b 5) v5).cell? (Y b 0) = some v0 ∧ ((((((w.setCell (Y b 0) v0).setCell (Y b 1) v1).setCell (Y b 2) v2).setCell (Y b 3) v3).setCell (Y b 4) v4).setCell (Y b 5) v5).cell? (Y b 1) = some v1 ∧ ((((((w.setCell (Y b 0) v0).setCell (Y b 1) v1).setCell (Y b 2) v2).setCell (Y b 3) v3).setCell (Y b 4) v4).setCell (Y b 5) v5).cell? (Y b 2) = some v2 ∧ ((((((w.setCell (Y b 0) v0).setCell (Y b 1) v1).setCell (Y b 2) v2).setCell (Y b 3) v3).setCell (Y b 4) v4).setCell (Y b 5) v5).cell? (Y b 3) = some v3 ∧ ((((((w.setCell (Y b 0) v0).setCell (Y b 1) v1).setCell (Y b 2) v2).setCell (Y b 3) v3).setCell (Y b 4) v4).setCell (Y b 5) v5).cell? (Y b 4) = some v4 ∧ ((((((w.setCell (Y b 0) v0).setCell (Y b 1) v1).setCell (Y b 2) v2).setCell (Y b 3) v3).setCell (Y b 4) v4).setCell (Y b 5) v5).cell? (Y b 5) = some v5 := by
 have n1 : ∀ i j : Nat,i ≠ j → (Y b i) ≠ (Y b j) := fun i j h e => h (by injection e);exact ⟨(zra _ _ _ _ (n1 5 0 (by decide))).trans ((zra _ _ _ _ (n1 4 0 (by decide))).trans ((zra _ _ _ _ (n1 3 0 (by decide))).trans ((zra _ _ _ _ (n1 2 0 (by decide))).trans ((zra _ _ _ _ (n1 1 0 (by decide))).trans (World.cell?_setCell_same _ _ _ (h0)))))),(zra _ _ _ _ (n1 5 1 (by decide))).trans ((zra _ _ _ _ (n1 4 1 (by decide))).trans ((zra _ _ _ _ (n1 3 1 (by decide))).trans ((zra _ _ _ _ (n1 2 1 (by decide))).trans (World.cell?_setCell_same _ _ _ ((zra _ _ _ _ (n1 0 1 (by decide))).trans (h1)))))),(zra _ _ _ _ (n1 5 2 (by decide))).trans ((zra _ _ _ _ (n1 4 2 (by decide))).trans ((zra _ _ _ _ (n1 3 2 (by decide))).trans (World.cell?_setCell_same _ _ _ ((zra _ _ _ _ (n1 1 2 (by decide))).trans ((zra _ _ _ _ (n1 0 2 (by decide))).trans (h2)))))),(zra _ _ _ _ (n1 5 3 (by decide))).trans ((zra _ _ _ _ (n1 4 3 (by decide))).trans (World.cell?_setCell_same _ _ _ ((zra _ _ _ _ (n1 2 3 (by decide))).trans ((zra _ _ _ _ (n1 1 3 (by decide))).trans ((zra _ _ _ _ (n1 0 3 (by decide))).trans (h3)))))),(zra _ _ _ _ (n1 5 4 (by decide))).trans (World.cell?_setCell_same _ _ _ ((zra _ _ _ _ (n1 3 4 (by decide))).trans ((zra _ _ _ _ (n1 2 4 (by decide))).trans ((zra _ _ _ _ (n1 1 4 (by decide))).trans ((zra _ _ _ _ (n1 0 4 (by decide))).trans (h4)))))),World.cell?_setCell_same _ _ _ ((zra _ _ _ _ (n1 4 5 (by decide))).trans ((zra _ _ _ _ (n1 3 5 (by decide))).trans ((zra _ _ _ _ (n1 2 5 (by decide))).trans ((zra _ _ _ _ (n1 1 5 (by decide))).trans ((zra _ _ _ _ (n1 0 5 (by decide))).trans (h5))))))⟩
theorem y4h {b : Nat} (k : Kept w w1) (h : w.heap.size ≤ b) (v0 v1 v2 v3 v4 v5 : Value) : Kept w ((((((w1.setCell (Y b 0) v0).setCell (Y b 1) v1).setCell (Y b 2) v2).setCell (Y b 3) v3).setCell (Y b 4) v4).setCell (Y b 5) v5) :=
 ((((((k.setCell (p := Y b 0) h v0).setCell (p := Y b 1) h v1).setCell (p := Y b 2) h v2).setCell (p := Y b 3) h v3).setCell (p := Y b 4) h v4).setCell (p := Y b 5) h v5)
def G63o6 (w : World) (b0 b1 b2 : Nat) (v0 v1 v2 v3 v4 v5 v6 v7 v8 : Value) (w' : World) : Prop :=
 Kept w w' ∧
 w'.cell? ⟨b0,0,none⟩ = some v0 ∧
 w'.cell? ⟨b0,1,none⟩ = some v1 ∧
 w'.cell? ⟨b0,2,none⟩ = some v2 ∧
 w'.cell? ⟨b0,3,none⟩ = some v3 ∧
 w'.cell? ⟨b0,4,none⟩ = some v4 ∧
 w'.cell? ⟨b0,5,none⟩ = some v5 ∧
 w'.cell? ⟨b1,0,none⟩ = some v6 ∧
 w'.cell? ⟨b1,1,none⟩ = some v7 ∧
 w'.cell? ⟨b1,2,none⟩ = some v8 ∧
 w'.cell? ⟨b2,0,none⟩ = some (cellV w' ⟨b2,0,none⟩) ∧
 w'.cell? ⟨b2,1,none⟩ = some (cellV w' ⟨b2,1,none⟩) ∧
 w'.cell? ⟨b2,2,none⟩ = some (cellV w' ⟨b2,2,none⟩) ∧
 w'.cell? ⟨b2,3,none⟩ = some (cellV w' ⟨b2,3,none⟩) ∧
 w'.cell? ⟨b2,4,none⟩ = some (cellV w' ⟨b2,4,none⟩) ∧
 w'.cell? ⟨b2,5,none⟩ = some (cellV w' ⟨b2,5,none⟩) ∧
 w'.frozen? ⟨b2,0,none⟩ = false ∧
 w'.frozen? ⟨b2,1,none⟩ = false ∧
 w'.frozen? ⟨b2,2,none⟩ = false ∧
 w'.frozen? ⟨b2,3,none⟩ = false ∧
 w'.frozen? ⟨b2,4,none⟩ = false ∧
 w'.frozen? ⟨b2,5,none⟩ = false
theorem G63o6.step (k : Kept w1 w2) (h : G63o6 w b0 b1 b2 v0 v1 v2 v3 v4 v5 v6 v7 v8 w1) : G63o6 w b0 b1 b2 v0 v1 v2 v3 v4 v5 v6 v7 v8 w2 := by
 obtain ⟨h0,h1,h2,h3,h4,h5,h6,h7,h8,h9,h10,h11,h12,h13,h14,h15,h16,h17,h18,h19,h20,h21⟩ := h;exact ⟨h0.trans k,y00 k h1,y00 k h2,y00 k h3,y00 k h4,y00 k h5,y00 k h6,y00 k h7,y00 k h8,y00 k h9,y06 k h10,y06 k h11,y06 k h12,y06 k h13,y06 k h14,y06 k h15,y01 k h16,y01 k h17,y01 k h18,y01 k h19,y01 k h20,y01 k h21⟩
theorem G63o6.drew {w w1 : World} {b0 b1 b2 : Nat} {v0 v1 v2 v3 v4 v5 v6 v7 v8 : Value} (h : G63o6 w b0 b1 b2 v0 v1 v2 v3 v4 v5 v6 v7 v8 w1) : G63o6 w b0 b1 b2 v0 v1 v2 v3 v4 v5 v6 v7 v8 w1.drew := h.step kd
theorem G63o6.put (i : Nat) (v : Value) (ho : w.heap.size ≤ b2) (n0 : b0 ≠ b2) (n1 : b1 ≠ b2) (h : G63o6 w b0 b1 b2 v0 v1 v2 v3 v4 v5 v6 v7 v8 w1) : G63o6 w b0 b1 b2 v0 v1 v2 v3 v4 v5 v6 v7 v8 (w1.setCell (Y b2 i) v) := by
 obtain ⟨h0,h1,h2,h3,h4,h5,h6,h7,h8,h9,h10,h11,h12,h13,h14,h15,h16,h17,h18,h19,h20,h21⟩ := h;exact ⟨h0.setCell (p := Y b2 i) ho v,(zf n0).trans h1,(zf n0).trans h2,(zf n0).trans h3,(zf n0).trans h4,(zf n0).trans h5,(zf n0).trans h6,(zf n1).trans h7,(zf n1).trans h8,(zf n1).trans h9,y04 h10,y04 h11,y04 h12,y04 h13,y04 h14,y04 h15,(zrb _ _ _ _).trans h16,(zrb _ _ _ _).trans h17,(zrb _ _ _ _).trans h18,(zrb _ _ _ _).trans h19,(zrb _ _ _ _).trans h20,(zrb _ _ _ _).trans h21⟩
theorem y94 (a0 a1 a2 a3 a4 a5 b0 b1 b2 b3 b4 b5 : Int) (w : World) :
  Calls Tryz.prog 191 #[.agg #[I a0,I a1,I a2,I a3,I a4,I a5],.agg #[I b0,I b1,I b2,I b3,I b4,I b5]] w fun e w' => e = .returned (.agg #[I (lesser a0 b0),I (lesser a1 b1),I (lesser a2 b2),I (greater a3 b3),I (greater a4 b4),I (greater a5 b5)]) ∧ Kept w w' := by
 have hmf := hmfT;go_enter Tryz.func191,Tryz.ntmps191
 go_wp2_with fail
 refine (y5o 201 _ (lesser a0 b0) (lesser a1 b1) (lesser a2 b2) (enters_of Tryz.func201 (by kernel_rfl) rfl) (G66At w.heap.size (w.heap.size + 1) (I a0) (I a1) (I a2) (I a3) (I a4) (I a5) (I b0) (I b1) (I b2) (I b3) (I b4) (I b5)) (fun _ _ k h => h.step k)
  (ans2 fun w' h => y5a _ _ en0 takes0 _ _ a0 a1 a2 a3 a4 a5 b0 b1 b2 b3 b4 b5 w' h) (ans2 fun w' h => y5a _ _ en1 takes1 _ _ a0 a1 a2 a3 a4 a5 b0 b1 b2 b3 b4 b5 w' h) (ans2 fun w' h => y5a _ _ en2 takes2 _ _ a0 a1 a2 a3 a4 a5 b0 b1 b2 b3 b4 b5 w' h) _ (by refine ⟨?_,?_,?_,?_,?_,?_,?_,?_,?_,?_,?_,?_⟩ <;> go_simp)).mono ?_
 rintro e w1 ⟨rfl,k1⟩;have hp : G66At w.heap.size (w.heap.size + 1) (I a0) (I a1) (I a2) (I a3) (I a4) (I a5) (I b0) (I b1) (I b2) (I b3) (I b4) (I b5) w1 := G66At.step k1 (by refine ⟨?_,?_,?_,?_,?_,?_,?_,?_,?_,?_,?_,?_⟩ <;> go_simp);go_wp2_with fail
 refine (y5o 202 _ (greater a3 b3) (greater a4 b4) (greater a5 b5) (enters_of Tryz.func202 (by kernel_rfl) rfl) (G66At w.heap.size (w.heap.size + 1) (I a0) (I a1) (I a2) (I a3) (I a4) (I a5) (I b0) (I b1) (I b2) (I b3) (I b4) (I b5)) (fun _ _ k h => h.step k)
  (ans2 fun w' h => y5i _ _ en0 takes0 _ _ a0 a1 a2 a3 a4 a5 b0 b1 b2 b3 b4 b5 w' h) (ans2 fun w' h => y5i _ _ en1 takes1 _ _ a0 a1 a2 a3 a4 a5 b0 b1 b2 b3 b4 b5 w' h) (ans2 fun w' h => y5i _ _ en2 takes2 _ _ a0 a1 a2 a3 a4 a5 b0 b1 b2 b3 b4 b5 w' h) _ hp).mono ?_
 rintro e w2 ⟨rfl,k2⟩;have c0 : w2.cell? (Y (w.heap.size + 1 + 1) 0) = some (I 0) := y00 (k1.trans k2) (by go_simp);have c1 : w2.cell? (Y (w.heap.size + 1 + 1) 1) = some (I 0) := y00 (k1.trans k2) (by go_simp);have c2 : w2.cell? (Y (w.heap.size + 1 + 1) 2) = some (I 0) := y00 (k1.trans k2) (by go_simp);have c3 : w2.cell? (Y (w.heap.size + 1 + 1) 3) = some (I 0) := y00 (k1.trans k2) (by go_simp);have c4 : w2.cell? (Y (w.heap.size + 1 + 1) 4) = some (I 0) := y00 (k1.trans k2) (by go_simp);have c5 : w2.cell? (Y (w.heap.size + 1 + 1) 5) = some (I 0) := y00 (k1.trans k2) (by go_simp);have f0 : w2.frozen? (Y (w.heap.size + 1 + 1) 0) = false := y01 (k1.trans k2) (by go_simp);have f1 : w2.frozen? (Y (w.heap.size + 1 + 1) 1) = false := y01 (k1.trans k2) (by go_simp);have f2 : w2.frozen? (Y (w.heap.size + 1 + 1) 2) = false := y01 (k1.trans k2) (by go_simp);have f3 : w2.frozen? (Y (w.heap.size + 1 + 1) 3) = false := y01 (k1.trans k2) (by go_simp);have f4 : w2.frozen? (Y (w.heap.size + 1 + 1) 4) = false := y01 (k1.trans k2) (by go_simp);have f5 : w2.frozen? (Y (w.heap.size + 1 + 1) 5) = false := y01 (k1.trans k2) (by go_simp);clear hp;go_wp2
 obtain ⟨e0,e1,e2,e3,e4,e5⟩ := y8t (v0 := I (lesser a0 b0)) (v1 := I (lesser a1 b1)) (v2 := I (lesser a2 b2)) (v3 := I (greater a3 b3)) (v4 := I (greater a4 b4)) (v5 := I (greater a5 b5)) c0 c1 c2 c3 c4 c5
 exact bodyPost_ret (v := .agg #[I (lesser a0 b0),I (lesser a1 b1),I (lesser a2 b2),I (greater a3 b3),I (greater a4 b4),I (greater a5 b5)]) (by simp [results,Tryz.results191,go_sem,e0,e1,e2,e3,e4,e5]) rfl
  ⟨rfl,y4h (((((Kept.refl w).alloc _ _).alloc _ _).alloc _ _).trans (k1.trans k2)) (by omega) _ _ _ _ _ _⟩
theorem y3k (a0 a1 a2 a3 a4 a5 n : Int) (w : World) :
  Calls Tryz.prog 109 #[.agg #[I a0,I a1,I a2,I a3,I a4,I a5],I n] w fun e w' => e = .returned (.agg #[I (sub a0 n),I (sub a1 n),I (sub a2 n),I (add a3 n),I (add a4 n),I (add a5 n)]) ∧ Kept w w' := by
 go_enter Tryz.func109,Tryz.ntmps109
 go_wp2
 refine wp_region_held_drew (S := (fun w' => Kept w w' ∧ Zc w' w.heap.size 0 a0 ∧ Zc w' w.heap.size 1 a1 ∧ Zc w' w.heap.size 2 a2 ∧ Zc w' w.heap.size 3 a3 ∧ Zc w' w.heap.size 4 a4 ∧ Zc w' w.heap.size 5 a5 ∧ Zc w' (w.heap.size + 1 + 1) 0 n ∧ Zc w' (w.heap.size + 1 + 1) 1 n ∧ Zc w' (w.heap.size + 1 + 1) 2 n ∧ w'.cell? (Y (w.heap.size + 1) 0) = some (cellV w' (Y (w.heap.size + 1) 0)) ∧ w'.cell? (Y (w.heap.size + 1) 1) = some (cellV w' (Y (w.heap.size + 1) 1)) ∧ w'.cell? (Y (w.heap.size + 1) 2) = some (cellV w' (Y (w.heap.size + 1) 2)) ∧ w'.cell? (Y (w.heap.size + 1) 3) = some (cellV w' (Y (w.heap.size + 1) 3)) ∧ w'.cell? (Y (w.heap.size + 1) 4) = some (cellV w' (Y (w.heap.size + 1) 4)) ∧ w'.cell? (Y (w.heap.size + 1) 5) = some (cellV w' (Y (w.heap.size + 1) 5)) ∧ w'.frozen? (Y (w.heap.size + 1) 0) = false ∧ w'.frozen? (Y (w.heap.size + 1) 1) = false ∧ w'.frozen? (Y (w.heap.size + 1) 2) = false ∧ w'.frozen? (Y (w.heap.size + 1) 3) = false ∧ w'.frozen? (Y (w.heap.size + 1) 4) = false ∧ w'.frozen? (Y (w.heap.size + 1) 5) = false)) (by kernel_rfl) ?_ (fun hJ1 => ?_)
 ·exact G63o6.drew (by refine ⟨(((Kept.refl w).alloc _ _).alloc _ _).alloc _ _,?_,?_,?_,?_,?_,?_,?_,?_,?_,y02 (v := I 0) ?_,y02 (v := I 0) ?_,y02 (v := I 0) ?_,y02 (v := I 0) ?_,y02 (v := I 0) ?_,y02 (v := I 0) ?_,?_,?_,?_,?_,?_,?_⟩ <;> go_simp)
 refine tkU 0 (h:=tkU 1 (h:=tkU 2 (h:=tkV 4 ?_)));try simp only [zP]
 refine tkU 5 (h:=tkV 6 ?_);try simp only [zP]
 refine rdW 3 rfl fun K hK => ?_;simp only [zQ];go_simp
 (go_at_call 96; refine (y0o _ _ _ _ _ _ _).mono ?_; rintro e w1 ⟨rfl,k1⟩)
 try go_wp2_with fail
 refine hK.out _ _ ?_ fun hJ2 => ?_
 ·exact G63o6.step k1 hJ1
 clear hK K hJ1;try simp only [zP]
 refine rdW 7 rfl fun K hK => ?_;simp only [zQ];go_simp
 (go_at_call 73; refine (y1y _ _ _ _ _ _ _).mono ?_; rintro e w2 ⟨rfl,k2⟩)
 try go_wp2_with fail
 refine hK.out _ _ ?_ fun hJ3 => ?_
 ·exact G63o6.step k2 hJ2
 clear hK K hJ2;try simp only [zP]
 refine tkV 8 ?_;try simp only [zP]
 refine rdW 9 rfl fun K hK => ?_;simp only [zQ];go_simp;refine hK.out _ _ ?_ fun hJ4 => ?_
 ·exact (G63o6.put 5 _ (by omega) (by omega) (by omega) (G63o6.put 4 _ (by omega) (by omega) (by omega) (G63o6.put 3 _ (by omega) (by omega) (by omega) (G63o6.put 2 _ (by omega) (by omega) (by omega) (G63o6.put 1 _ (by omega) (by omega) (by omega) (G63o6.put 0 _ (by omega) (by omega) (by omega) hJ3))))))
 clear hK K;try simp only [zP]
 refine wpAnyH_done (by kernel_rfl) ?_ _;go_wp2
 obtain ⟨hk,_,_,_,_,_,_,_,_,_,c0,c1,c2,c3,c4,c5,_⟩ := hJ3;obtain ⟨e0,e1,e2,e3,e4,e5⟩ := y8t (v0 := I (sub a0 n)) (v1 := I (sub a1 n)) (v2 := I (sub a2 n)) (v3 := I (add a3 n)) (v4 := I (add a4 n)) (v5 := I (add a5 n)) c0 c1 c2 c3 c4 c5;exact bodyPost_ret (v := .agg #[I (sub a0 n),I (sub a1 n),I (sub a2 n),I (add a3 n),I (add a4 n),I (add a5 n)]) (by simp [results,Tryz.results109,go_sem,e0,e1,e2,e3,e4,e5]) rfl ⟨rfl,y4h hk (by omega) _ _ _ _ _ _⟩
theorem y20 {a0 a1 a2 a3 a4 a5 b0 b1 b2 b3 b4 b5 : Int} : meetB a0 a1 a2 a3 a4 a5 b0 b1 b2 b3 b4 b5 = true ↔ ((a0 ≤ b3 ∧ b0 ≤ a3) ∧ (a1 ≤ b4 ∧ b1 ≤ a4)) ∧ (a2 ≤ b5 ∧ b2 ≤ a5) := by simp [meetB]
theorem y0i {a b : Bool} (h : a = b) : Ending.returned (.bool a) = .returned (.bool b) := by rw [h]
def Row3 (b : Nat) (x y z : Int) (w : World) : Prop := w.cell? ⟨b,0,none⟩ = some (J U x) ∧ w.cell? ⟨b,1,none⟩ = some (J U y) ∧ w.cell? ⟨b,2,none⟩ = some (J U z)
theorem Row3.step {b : Nat} {x y z : Int} {w' : World} (k : Kept w w') (h : Row3 b x y z w) : Row3 b x y z w' := ⟨y00 k h.1,y00 k h.2.1,y00 k h.2.2⟩
theorem y0g (x y z : Int) (w : World) : Calls Tryz.prog 52 #[.agg #[I x,I y,I z]] w fun e w' => ∃ b,e = .returned (.slice (some (Y b 0)) 3 3) ∧ Kept w w' ∧ Row3 b x y z w' := by
 go_enter Tryz.func52,Tryz.ntmps52
 go_wp2
 go_ret
 exact ⟨w.heap.size + 1,rfl,((Kept.refl _).alloc _ _).alloc _ _,by go_simp,by go_simp,by go_simp⟩
theorem y2i (a0 a1 a2 a3 a4 a5 b0 b1 b2 b3 b4 b5 : Int) (w : World) :
  Calls Tryz.prog 15 #[.agg #[I a0,I a1,I a2,I a3,I a4,I a5],.agg #[I b0,I b1,I b2,I b3,I b4,I b5]] w fun e w' => e = .returned (.bool (meetB a0 a1 a2 a3 a4 a5 b0 b1 b2 b3 b4 b5)) ∧ Kept w w' := by
 go_enter Tryz.func15,Tryz.ntmps15
 go_wp2
 refine wp_region_held_drew (S := (fun w' => Kept w w' ∧ Zc w' w.heap.size 0 a0 ∧ Zc w' w.heap.size 1 a1 ∧ Zc w' w.heap.size 2 a2 ∧ Zc w' w.heap.size 3 a3 ∧ Zc w' w.heap.size 4 a4 ∧ Zc w' w.heap.size 5 a5 ∧ Zc w' (w.heap.size + 1) 0 b0 ∧ Zc w' (w.heap.size + 1) 1 b1 ∧ Zc w' (w.heap.size + 1) 2 b2 ∧ Zc w' (w.heap.size + 1) 3 b3 ∧ Zc w' (w.heap.size + 1) 4 b4 ∧ Zc w' (w.heap.size + 1) 5 b5)) (by kernel_rfl) ?_ (fun hJ1 => ?_)
 ·exact G66.drew (by refine ⟨((Kept.refl w).alloc _ _).alloc _ _,?_,?_,?_,?_,?_,?_,?_,?_,?_,?_,?_,?_⟩ <;> go_simp)
 refine tkU 0 (h:=tkU 1 (h:=tkU 3 (h:=tkV 4 ?_)));try simp only [zP]
 refine tkU 6 (h:=tkU 7 (h:=tkU 9 (h:=tkV 10 ?_)));try simp only [zP]
 refine rdW 2 rfl fun K hK => ?_;simp only [zQ];go_simp
 (go_at_call 52; refine (y0g _ _ _ _).mono ?_; rintro e w1 ⟨q0,rfl,k1,r0⟩)
 try go_wp2_with fail
 refine hK.out _ _ ?_ fun hJ2 => ?_
 ·exact G66.step k1 hJ1
 clear hK K hJ1;try simp only [zP]
 refine rdW 5 rfl fun K hK => ?_;simp only [zQ];go_simp
 (go_at_call 52; refine (y0g _ _ _ _).mono ?_; rintro e w2 ⟨q1,rfl,k2,r1⟩)
 try go_wp2_with fail
 refine hK.out _ _ ?_ fun hJ3 => ?_
 ·exact G66.step k2 hJ2
 clear hK K hJ2;try simp only [zP]
 refine rdW 8 rfl fun K hK => ?_;simp only [zQ];go_simp
 (go_at_call 52; refine (y0g _ _ _ _).mono ?_; rintro e w3 ⟨q2,rfl,k3,r2⟩)
 try go_wp2_with fail
 refine hK.out _ _ ?_ fun hJ4 => ?_
 ·exact G66.step k3 hJ3
 clear hK K hJ3;try simp only [zP]
 refine rdW 11 rfl fun K hK => ?_;simp only [zQ];go_simp
 (go_at_call 52; refine (y0g _ _ _ _).mono ?_; rintro e w4 ⟨q3,rfl,k4,r3⟩)
 try go_wp2_with fail
 refine hK.out _ _ ?_ fun hJ5 => ?_
 ·exact G66.step k4 hJ4
 clear hK K hJ4;try simp only [zP]
 refine tkU 12 (h:=tkU 13 (h:=tkU 14 (h:=tkV 15 ?_)));try simp only [zP]
 refine wpAnyH_done (by kernel_rfl) ?_ _;have hk : Kept w w4 := hJ5.1;obtain ⟨x0,x1,x2⟩ := (r0.step k2).step (k3.trans k4);obtain ⟨x3,x4,x5⟩ := r1.step (k3.trans k4);obtain ⟨y0,y1,y2⟩ := r2.step k4;obtain ⟨y3,y4,y5⟩ := r3;clear r0 r1 r2 k1 k2 k3 k4 hJ5;go_wp2
 refine wp_loop_rounds 4 ?_;rw [rounds_succ];go_wp2
 cases d0 : decide (b3 < a0) with
 | true =>
  refine wp_region_held_drew (S := (fun w' => Kept w w' ∧ Zc w' q0 0 a0 ∧ Zc w' q0 1 a1 ∧ Zc w' q0 2 a2 ∧ Zc w' q1 0 a3 ∧ Zc w' q1 1 a4 ∧ Zc w' q1 2 a5 ∧ Zc w' q2 0 b0 ∧ Zc w' q2 1 b1 ∧ Zc w' q2 2 b2 ∧ Zc w' q3 0 b3 ∧ Zc w' q3 1 b4 ∧ Zc w' q3 2 b5)) (by kernel_rfl) ?_ (fun hJ1 => ?_)
  ·exact ⟨Kept.drew (by assumption),y00 kd (by assumption),y00 kd (by assumption),y00 kd (by assumption),y00 kd (by assumption),y00 kd (by assumption),y00 kd (by assumption),y00 kd (by assumption),y00 kd (by assumption),y00 kd (by assumption),y00 kd (by assumption),y00 kd (by assumption),y00 kd (by assumption)⟩
  refine tkU 0 (h:=tkU 1 (h:=tkU 2 (h:=tkV 3 ?_)));try simp only [zP]
  refine tkU 4 (h:=tkU 5 (h:=tkU 6 (h:=tkV 7 ?_)));try simp only [zP]
  refine tkU 8 (h:=tkV 9 ?_);try simp only [zP]
  refine skW 10 rfl ?_; refine skW 11 rfl ?_; refine skW 12 rfl ?_; refine skW 13 rfl ?_;try simp only [zP]
  refine skW 14 rfl ?_; refine skW 15 rfl ?_; refine skW 16 rfl ?_; refine skW 17 rfl ?_;try simp only [zP]
  refine skW 18 rfl ?_;try simp only [zP]
  refine tkV 19 ?_;try simp only [zP]
  refine wpAnyH_done (by kernel_rfl) ?_ _;have hk1 := hJ1.1;clear hJ1;go_wp2
  go_ret
  exact ⟨y0i (Eq.symm (by rw [Bool.eq_false_iff,ne_eq,y20]; simp only [decide_eq_true_eq,decide_eq_false_iff_not] at *; omega)),hk1⟩
 | false =>
  cases d1 : decide (a3 < b0) with
  | true =>
   refine wp_region_held_drew (S := (fun w' => Kept w w' ∧ Zc w' q0 0 a0 ∧ Zc w' q0 1 a1 ∧ Zc w' q0 2 a2 ∧ Zc w' q1 0 a3 ∧ Zc w' q1 1 a4 ∧ Zc w' q1 2 a5 ∧ Zc w' q2 0 b0 ∧ Zc w' q2 1 b1 ∧ Zc w' q2 2 b2 ∧ Zc w' q3 0 b3 ∧ Zc w' q3 1 b4 ∧ Zc w' q3 2 b5)) (by kernel_rfl) ?_ (fun hJ1 => ?_)
   ·exact ⟨Kept.drew (by assumption),y00 kd (by assumption),y00 kd (by assumption),y00 kd (by assumption),y00 kd (by assumption),y00 kd (by assumption),y00 kd (by assumption),y00 kd (by assumption),y00 kd (by assumption),y00 kd (by assumption),y00 kd (by assumption),y00 kd (by assumption),y00 kd (by assumption)⟩
   refine tkU 0 (h:=tkU 1 (h:=tkU 2 (h:=tkV 3 ?_)));try simp only [zP]
   refine tkU 4 (h:=tkU 5 (h:=tkU 6 (h:=tkV 7 ?_)));try simp only [zP]
   refine tkU 8 (h:=tkV 9 ?_);try simp only [zP]
   refine tkU 10 (h:=tkU 11 (h:=tkU 12 (h:=tkV 13 ?_)));try simp only [zP]
   refine tkU 14 (h:=tkU 15 (h:=tkU 16 (h:=tkV 17 ?_)));try simp only [zP]
   refine tkV 18 ?_;try simp only [zP]
   refine tkV 19 ?_;try simp only [zP]
   refine wpAnyH_done (by kernel_rfl) ?_ _;have hk1 := hJ1.1;clear hJ1;go_wp2
   go_ret
   exact ⟨y0i (Eq.symm (by rw [Bool.eq_false_iff,ne_eq,y20]; simp only [decide_eq_true_eq,decide_eq_false_iff_not] at *; omega)),hk1⟩
  | false =>
   refine wp_region_held_drew (S := (fun w' => Kept w w' ∧ Zc w' q0 0 a0 ∧ Zc w' q0 1 a1 ∧ Zc w' q0 2 a2 ∧ Zc w' q1 0 a3 ∧ Zc w' q1 1 a4 ∧ Zc w' q1 2 a5 ∧ Zc w' q2 0 b0 ∧ Zc w' q2 1 b1 ∧ Zc w' q2 2 b2 ∧ Zc w' q3 0 b3 ∧ Zc w' q3 1 b4 ∧ Zc w' q3 2 b5)) (by kernel_rfl) ?_ (fun hJ1 => ?_)
   ·exact ⟨Kept.drew (by assumption),y00 kd (by assumption),y00 kd (by assumption),y00 kd (by assumption),y00 kd (by assumption),y00 kd (by assumption),y00 kd (by assumption),y00 kd (by assumption),y00 kd (by assumption),y00 kd (by assumption),y00 kd (by assumption),y00 kd (by assumption),y00 kd (by assumption)⟩
   refine tkU 0 (h:=tkU 1 (h:=tkU 2 (h:=tkV 3 ?_)));try simp only [zP]
   refine tkU 4 (h:=tkU 5 (h:=tkU 6 (h:=tkV 7 ?_)));try simp only [zP]
   refine tkU 8 (h:=tkV 9 ?_);try simp only [zP]
   refine tkU 10 (h:=tkU 11 (h:=tkU 12 (h:=tkV 13 ?_)));try simp only [zP]
   refine tkU 14 (h:=tkU 15 (h:=tkU 16 (h:=tkV 17 ?_)));try simp only [zP]
   refine tkV 18 ?_;try simp only [zP]
   refine tkV 19 ?_;try simp only [zP]
   refine wpAnyH_done (by kernel_rfl) ?_ _;obtain ⟨hk1,x0,x1,x2,x3,x4,x5,y0,y1,y2,y3,y4,y5⟩ := hJ1;go_wp2
   rw [rounds_succ];go_wp2
   cases d2 : decide (b4 < a1) with
   | true =>
    refine wp_region_held_drew (S := (fun w' => Kept w w' ∧ Zc w' q0 0 a0 ∧ Zc w' q0 1 a1 ∧ Zc w' q0 2 a2 ∧ Zc w' q1 0 a3 ∧ Zc w' q1 1 a4 ∧ Zc w' q1 2 a5 ∧ Zc w' q2 0 b0 ∧ Zc w' q2 1 b1 ∧ Zc w' q2 2 b2 ∧ Zc w' q3 0 b3 ∧ Zc w' q3 1 b4 ∧ Zc w' q3 2 b5)) (by kernel_rfl) ?_ (fun hJ1 => ?_)
    ·exact ⟨Kept.drew (by assumption),y00 kd (by assumption),y00 kd (by assumption),y00 kd (by assumption),y00 kd (by assumption),y00 kd (by assumption),y00 kd (by assumption),y00 kd (by assumption),y00 kd (by assumption),y00 kd (by assumption),y00 kd (by assumption),y00 kd (by assumption),y00 kd (by assumption)⟩
    refine tkU 0 (h:=tkU 1 (h:=tkU 2 (h:=tkV 3 ?_)));try simp only [zP]
    refine tkU 4 (h:=tkU 5 (h:=tkU 6 (h:=tkV 7 ?_)));try simp only [zP]
    refine tkU 8 (h:=tkV 9 ?_);try simp only [zP]
    refine skW 10 rfl ?_; refine skW 11 rfl ?_; refine skW 12 rfl ?_; refine skW 13 rfl ?_;try simp only [zP]
    refine skW 14 rfl ?_; refine skW 15 rfl ?_; refine skW 16 rfl ?_; refine skW 17 rfl ?_;try simp only [zP]
    refine skW 18 rfl ?_;try simp only [zP]
    refine tkV 19 ?_;try simp only [zP]
    refine wpAnyH_done (by kernel_rfl) ?_ _;have hk2 := hJ1.1;clear hJ1;go_wp2
    go_ret
    exact ⟨y0i (Eq.symm (by rw [Bool.eq_false_iff,ne_eq,y20]; simp only [decide_eq_true_eq,decide_eq_false_iff_not] at *; omega)),hk2⟩
   | false =>
    cases d3 : decide (a4 < b1) with
    | true =>
     refine wp_region_held_drew (S := (fun w' => Kept w w' ∧ Zc w' q0 0 a0 ∧ Zc w' q0 1 a1 ∧ Zc w' q0 2 a2 ∧ Zc w' q1 0 a3 ∧ Zc w' q1 1 a4 ∧ Zc w' q1 2 a5 ∧ Zc w' q2 0 b0 ∧ Zc w' q2 1 b1 ∧ Zc w' q2 2 b2 ∧ Zc w' q3 0 b3 ∧ Zc w' q3 1 b4 ∧ Zc w' q3 2 b5)) (by kernel_rfl) ?_ (fun hJ1 => ?_)
     ·exact ⟨Kept.drew (by assumption),y00 kd (by assumption),y00 kd (by assumption),y00 kd (by assumption),y00 kd (by assumption),y00 kd (by assumption),y00 kd (by assumption),y00 kd (by assumption),y00 kd (by assumption),y00 kd (by assumption),y00 kd (by assumption),y00 kd (by assumption),y00 kd (by assumption)⟩
     refine tkU 0 (h:=tkU 1 (h:=tkU 2 (h:=tkV 3 ?_)));try simp only [zP]
     refine tkU 4 (h:=tkU 5 (h:=tkU 6 (h:=tkV 7 ?_)));try simp only [zP]
     refine tkU 8 (h:=tkV 9 ?_);try simp only [zP]
     refine tkU 10 (h:=tkU 11 (h:=tkU 12 (h:=tkV 13 ?_)));try simp only [zP]
     refine tkU 14 (h:=tkU 15 (h:=tkU 16 (h:=tkV 17 ?_)));try simp only [zP]
     refine tkV 18 ?_;try simp only [zP]
     refine tkV 19 ?_;try simp only [zP]
     refine wpAnyH_done (by kernel_rfl) ?_ _;have hk2 := hJ1.1;clear hJ1;go_wp2
     go_ret
     exact ⟨y0i (Eq.symm (by rw [Bool.eq_false_iff,ne_eq,y20]; simp only [decide_eq_true_eq,decide_eq_false_iff_not] at *; omega)),hk2⟩
    | false =>
     refine wp_region_held_drew (S := (fun w' => Kept w w' ∧ Zc w' q0 0 a0 ∧ Zc w' q0 1 a1 ∧ Zc w' q0 2 a2 ∧ Zc w' q1 0 a3 ∧ Zc w' q1 1 a4 ∧ Zc w' q1 2 a5 ∧ Zc w' q2 0 b0 ∧ Zc w' q2 1 b1 ∧ Zc w' q2 2 b2 ∧ Zc w' q3 0 b3 ∧ Zc w' q3 1 b4 ∧ Zc w' q3 2 b5)) (by kernel_rfl) ?_ (fun hJ1 => ?_)
     ·exact ⟨Kept.drew (by assumption),y00 kd (by assumption),y00 kd (by assumption),y00 kd (by assumption),y00 kd (by assumption),y00 kd (by assumption),y00 kd (by assumption),y00 kd (by assumption),y00 kd (by assumption),y00 kd (by assumption),y00 kd (by assumption),y00 kd (by assumption),y00 kd (by assumption)⟩
     refine tkU 0 (h:=tkU 1 (h:=tkU 2 (h:=tkV 3 ?_)));try simp only [zP]
     refine tkU 4 (h:=tkU 5 (h:=tkU 6 (h:=tkV 7 ?_)));try simp only [zP]
     refine tkU 8 (h:=tkV 9 ?_);try simp only [zP]
     refine tkU 10 (h:=tkU 11 (h:=tkU 12 (h:=tkV 13 ?_)));try simp only [zP]
     refine tkU 14 (h:=tkU 15 (h:=tkU 16 (h:=tkV 17 ?_)));try simp only [zP]
     refine tkV 18 ?_;try simp only [zP]
     refine tkV 19 ?_;try simp only [zP]
     refine wpAnyH_done (by kernel_rfl) ?_ _;obtain ⟨hk2,x0,x1,x2,x3,x4,x5,y0,y1,y2,y3,y4,y5⟩ := hJ1;go_wp2
     rw [rounds_succ];go_wp2
     cases d4 : decide (b5 < a2) with
     | true =>
      refine wp_region_held_drew (S := (fun w' => Kept w w' ∧ Zc w' q0 0 a0 ∧ Zc w' q0 1 a1 ∧ Zc w' q0 2 a2 ∧ Zc w' q1 0 a3 ∧ Zc w' q1 1 a4 ∧ Zc w' q1 2 a5 ∧ Zc w' q2 0 b0 ∧ Zc w' q2 1 b1 ∧ Zc w' q2 2 b2 ∧ Zc w' q3 0 b3 ∧ Zc w' q3 1 b4 ∧ Zc w' q3 2 b5)) (by kernel_rfl) ?_ (fun hJ1 => ?_)
      ·exact ⟨Kept.drew (by assumption),y00 kd (by assumption),y00 kd (by assumption),y00 kd (by assumption),y00 kd (by assumption),y00 kd (by assumption),y00 kd (by assumption),y00 kd (by assumption),y00 kd (by assumption),y00 kd (by assumption),y00 kd (by assumption),y00 kd (by assumption),y00 kd (by assumption)⟩
      refine tkU 0 (h:=tkU 1 (h:=tkU 2 (h:=tkV 3 ?_)));try simp only [zP]
      refine tkU 4 (h:=tkU 5 (h:=tkU 6 (h:=tkV 7 ?_)));try simp only [zP]
      refine tkU 8 (h:=tkV 9 ?_);try simp only [zP]
      refine skW 10 rfl ?_; refine skW 11 rfl ?_; refine skW 12 rfl ?_; refine skW 13 rfl ?_;try simp only [zP]
      refine skW 14 rfl ?_; refine skW 15 rfl ?_; refine skW 16 rfl ?_; refine skW 17 rfl ?_;try simp only [zP]
      refine skW 18 rfl ?_;try simp only [zP]
      refine tkV 19 ?_;try simp only [zP]
      refine wpAnyH_done (by kernel_rfl) ?_ _;have hk3 := hJ1.1;clear hJ1;go_wp2
      go_ret
      exact ⟨y0i (Eq.symm (by rw [Bool.eq_false_iff,ne_eq,y20]; simp only [decide_eq_true_eq,decide_eq_false_iff_not] at *; omega)),hk3⟩
     | false =>
      cases d5 : decide (a5 < b2) with
      | true =>
       refine wp_region_held_drew (S := (fun w' => Kept w w' ∧ Zc w' q0 0 a0 ∧ Zc w' q0 1 a1 ∧ Zc w' q0 2 a2 ∧ Zc w' q1 0 a3 ∧ Zc w' q1 1 a4 ∧ Zc w' q1 2 a5 ∧ Zc w' q2 0 b0 ∧ Zc w' q2 1 b1 ∧ Zc w' q2 2 b2 ∧ Zc w' q3 0 b3 ∧ Zc w' q3 1 b4 ∧ Zc w' q3 2 b5)) (by kernel_rfl) ?_ (fun hJ1 => ?_)
       ·exact ⟨Kept.drew (by assumption),y00 kd (by assumption),y00 kd (by assumption),y00 kd (by assumption),y00 kd (by assumption),y00 kd (by assumption),y00 kd (by assumption),y00 kd (by assumption),y00 kd (by assumption),y00 kd (by assumption),y00 kd (by assumption),y00 kd (by assumption),y00 kd (by assumption)⟩
       refine tkU 0 (h:=tkU 1 (h:=tkU 2 (h:=tkV 3 ?_)));try simp only [zP]
       refine tkU 4 (h:=tkU 5 (h:=tkU 6 (h:=tkV 7 ?_)));try simp only [zP]
       refine tkU 8 (h:=tkV 9 ?_);try simp only [zP]
       refine tkU 10 (h:=tkU 11 (h:=tkU 12 (h:=tkV 13 ?_)));try simp only [zP]
       refine tkU 14 (h:=tkU 15 (h:=tkU 16 (h:=tkV 17 ?_)));try simp only [zP]
       refine tkV 18 ?_;try simp only [zP]
       refine tkV 19 ?_;try simp only [zP]
       refine wpAnyH_done (by kernel_rfl) ?_ _;have hk3 := hJ1.1;clear hJ1;go_wp2
       go_ret
       exact ⟨y0i (Eq.symm (by rw [Bool.eq_false_iff,ne_eq,y20]; simp only [decide_eq_true_eq,decide_eq_false_iff_not] at *; omega)),hk3⟩
      | false =>
       refine wp_region_held_drew (S := (fun w' => Kept w w' ∧ Zc w' q0 0 a0 ∧ Zc w' q0 1 a1 ∧ Zc w' q0 2 a2 ∧ Zc w' q1 0 a3 ∧ Zc w' q1 1 a4 ∧ Zc w' q1 2 a5 ∧ Zc w' q2 0 b0 ∧ Zc w' q2 1 b1 ∧ Zc w' q2 2 b2 ∧ Zc w' q3 0 b3 ∧ Zc w' q3 1 b4 ∧ Zc w' q3 2 b5)) (by kernel_rfl) ?_ (fun hJ1 => ?_)
       ·exact ⟨Kept.drew (by assumption),y00 kd (by assumption),y00 kd (by assumption),y00 kd (by assumption),y00 kd (by assumption),y00 kd (by assumption),y00 kd (by assumption),y00 kd (by assumption),y00 kd (by assumption),y00 kd (by assumption),y00 kd (by assumption),y00 kd (by assumption),y00 kd (by assumption)⟩
       refine tkU 0 (h:=tkU 1 (h:=tkU 2 (h:=tkV 3 ?_)));try simp only [zP]
       refine tkU 4 (h:=tkU 5 (h:=tkU 6 (h:=tkV 7 ?_)));try simp only [zP]
       refine tkU 8 (h:=tkV 9 ?_);try simp only [zP]
       refine tkU 10 (h:=tkU 11 (h:=tkU 12 (h:=tkV 13 ?_)));try simp only [zP]
       refine tkU 14 (h:=tkU 15 (h:=tkU 16 (h:=tkV 17 ?_)));try simp only [zP]
       refine tkV 18 ?_;try simp only [zP]
       refine tkV 19 ?_;try simp only [zP]
       refine wpAnyH_done (by kernel_rfl) ?_ _;obtain ⟨hk3,x0,x1,x2,x3,x4,x5,y0,y1,y2,y3,y4,y5⟩ := hJ1;go_wp2
       rw [rounds_succ];go_wp2
       go_ret
       exact ⟨y0i (Eq.symm (by rw [y20]; simp only [decide_eq_true_eq,decide_eq_false_iff_not] at *; omega)),hk3⟩
def G66o6 (w : World) (b0 b1 b2 : Nat) (v0 v1 v2 v3 v4 v5 v6 v7 v8 v9 v10 v11 : Value) (w' : World) : Prop :=
 Kept w w' ∧
 w'.cell? ⟨b0,0,none⟩ = some v0 ∧
 w'.cell? ⟨b0,1,none⟩ = some v1 ∧
 w'.cell? ⟨b0,2,none⟩ = some v2 ∧
 w'.cell? ⟨b0,3,none⟩ = some v3 ∧
 w'.cell? ⟨b0,4,none⟩ = some v4 ∧
 w'.cell? ⟨b0,5,none⟩ = some v5 ∧
 w'.cell? ⟨b1,0,none⟩ = some v6 ∧
 w'.cell? ⟨b1,1,none⟩ = some v7 ∧
 w'.cell? ⟨b1,2,none⟩ = some v8 ∧
 w'.cell? ⟨b1,3,none⟩ = some v9 ∧
 w'.cell? ⟨b1,4,none⟩ = some v10 ∧
 w'.cell? ⟨b1,5,none⟩ = some v11 ∧
 w'.cell? ⟨b2,0,none⟩ = some (cellV w' ⟨b2,0,none⟩) ∧
 w'.cell? ⟨b2,1,none⟩ = some (cellV w' ⟨b2,1,none⟩) ∧
 w'.cell? ⟨b2,2,none⟩ = some (cellV w' ⟨b2,2,none⟩) ∧
 w'.cell? ⟨b2,3,none⟩ = some (cellV w' ⟨b2,3,none⟩) ∧
 w'.cell? ⟨b2,4,none⟩ = some (cellV w' ⟨b2,4,none⟩) ∧
 w'.cell? ⟨b2,5,none⟩ = some (cellV w' ⟨b2,5,none⟩) ∧
 w'.frozen? ⟨b2,0,none⟩ = false ∧
 w'.frozen? ⟨b2,1,none⟩ = false ∧
 w'.frozen? ⟨b2,2,none⟩ = false ∧
 w'.frozen? ⟨b2,3,none⟩ = false ∧
 w'.frozen? ⟨b2,4,none⟩ = false ∧
 w'.frozen? ⟨b2,5,none⟩ = false
theorem G66o6.step (k : Kept w1 w2) (h : G66o6 w b0 b1 b2 v0 v1 v2 v3 v4 v5 v6 v7 v8 v9 v10 v11 w1) : G66o6 w b0 b1 b2 v0 v1 v2 v3 v4 v5 v6 v7 v8 v9 v10 v11 w2 := by
 obtain ⟨h0,h1,h2,h3,h4,h5,h6,h7,h8,h9,h10,h11,h12,h13,h14,h15,h16,h17,h18,h19,h20,h21,h22,h23,h24⟩ := h;exact ⟨h0.trans k,y00 k h1,y00 k h2,y00 k h3,y00 k h4,y00 k h5,y00 k h6,y00 k h7,y00 k h8,y00 k h9,y00 k h10,y00 k h11,y00 k h12,y06 k h13,y06 k h14,y06 k h15,y06 k h16,y06 k h17,y06 k h18,y01 k h19,y01 k h20,y01 k h21,y01 k h22,y01 k h23,y01 k h24⟩
theorem G66o6.drew {w w1 : World} {b0 b1 b2 : Nat} {v0 v1 v2 v3 v4 v5 v6 v7 v8 v9 v10 v11 : Value} (h : G66o6 w b0 b1 b2 v0 v1 v2 v3 v4 v5 v6 v7 v8 v9 v10 v11 w1) : G66o6 w b0 b1 b2 v0 v1 v2 v3 v4 v5 v6 v7 v8 v9 v10 v11 w1.drew := h.step kd
theorem G66o6.put (i : Nat) (v : Value) (ho : w.heap.size ≤ b2) (n0 : b0 ≠ b2) (n1 : b1 ≠ b2) (h : G66o6 w b0 b1 b2 v0 v1 v2 v3 v4 v5 v6 v7 v8 v9 v10 v11 w1) : G66o6 w b0 b1 b2 v0 v1 v2 v3 v4 v5 v6 v7 v8 v9 v10 v11 (w1.setCell (Y b2 i) v) := by
 obtain ⟨h0,h1,h2,h3,h4,h5,h6,h7,h8,h9,h10,h11,h12,h13,h14,h15,h16,h17,h18,h19,h20,h21,h22,h23,h24⟩ := h;exact ⟨h0.setCell (p := Y b2 i) ho v,(zf n0).trans h1,(zf n0).trans h2,(zf n0).trans h3,(zf n0).trans h4,(zf n0).trans h5,(zf n0).trans h6,(zf n1).trans h7,(zf n1).trans h8,(zf n1).trans h9,(zf n1).trans h10,(zf n1).trans h11,(zf n1).trans h12,y04 h13,y04 h14,y04 h15,y04 h16,y04 h17,y04 h18,(zrb _ _ _ _).trans h19,(zrb _ _ _ _).trans h20,(zrb _ _ _ _).trans h21,(zrb _ _ _ _).trans h22,(zrb _ _ _ _).trans h23,(zrb _ _ _ _).trans h24⟩
theorem yk8 (h : b < a) : lesser a b = b := by unfold lesser; rw [if_pos h]
theorem yk7 (h : ¬ b < a) : lesser a b = a := by unfold lesser; rw [if_neg h]
theorem yic (h : a < b) : greater a b = b := by unfold greater; rw [if_pos h]
theorem yhg (h : ¬ a < b) : greater a b = a := by unfold greater; rw [if_neg h]
theorem yau (n m : Int) (w : World) : Calls Tryz.prog 139 #[I n,I m] w fun e w' => e = .returned (I (lesser n m)) ∧ Kept w w' := by
 by_cases h : m < n
 ·rw [yk8 h]
  go_enter Tryz.func139,Tryz.ntmps139
  go_wp2
  go_ret
  exact ⟨rfl,Kept.refl _⟩
 ·rw [yk7 h]
  go_enter Tryz.func139,Tryz.ntmps139
  go_wp2
  go_ret
  exact ⟨rfl,Kept.refl _⟩
theorem yb0 (n m : Int) (w : World) : Calls Tryz.prog 140 #[I n,I m] w fun e w' => e = .returned (I (greater n m)) ∧ Kept w w' := by
 by_cases h : n < m
 ·rw [yic h]
  go_enter Tryz.func140,Tryz.ntmps140
  go_wp2
  go_ret
  exact ⟨rfl,Kept.refl _⟩
 ·rw [yhg h]
  go_enter Tryz.func140,Tryz.ntmps140
  go_wp2
  go_ret
  exact ⟨rfl,Kept.refl _⟩
theorem yc3 (b0 b1 b2 b3 b4 b5 p0 p1 p2 : Int) (w : World) :
  Calls Tryz.prog 99 #[.agg #[I b0,I b1,I b2,I b3,I b4,I b5],.agg #[I p0,I p1,I p2]] w fun e w' => e = .returned (.agg #[I (near p0 b0 b3),I (near p1 b1 b4),I (near p2 b2 b5)]) ∧ Kept w w' := by
 go_enter Tryz.func99,Tryz.ntmps99
 go_wp2_with fail
 refine (y37 139 lesser (enters_of Tryz.func139 (by kernel_rfl) rfl) (fun n m w' => yau n m w') _ _ _ _ _ _ _).mono ?_;rintro e w1 ⟨rfl,k1⟩;have l0 := later (y00 k1 (a := Y w.heap.size 0) (v := I b0) (by go_simp));have c0 := later (y00 k1 (a := Y (w.heap.size + 1 + 1) 0) (v := I 0) (by go_simp));have f0 := laterF (y01 k1 (a := Y (w.heap.size + 1 + 1) 0) (b := false) (by go_simp));have l1 := later (y00 k1 (a := Y w.heap.size 1) (v := I b1) (by go_simp));have c1 := later (y00 k1 (a := Y (w.heap.size + 1 + 1) 1) (v := I 0) (by go_simp));have f1 := laterF (y01 k1 (a := Y (w.heap.size + 1 + 1) 1) (b := false) (by go_simp));have l2 := later (y00 k1 (a := Y w.heap.size 2) (v := I b2) (by go_simp));have c2 := later (y00 k1 (a := Y (w.heap.size + 1 + 1) 2) (v := I 0) (by go_simp));have f2 := laterF (y01 k1 (a := Y (w.heap.size + 1 + 1) 2) (b := false) (by go_simp));go_wp2_with fail
 refine (y37 140 greater (enters_of Tryz.func140 (by kernel_rfl) rfl) (fun n m w' => yb0 n m w') _ _ _ _ _ _ _).mono ?_;rintro e w2 ⟨rfl,k2⟩;have d0 := y00 k2 (c0 _);have g0 := y01 k2 (f0 _ _);have d1 := y00 k2 (c1 _);have g1 := y01 k2 (f1 _ _);have d2 := y00 k2 (c2 _);have g2 := y01 k2 (f2 _ _);clear l0 l1 l2 c0 c1 c2 f0 f1 f2;go_wp2
 obtain ⟨e0,e1,e2⟩ := y0b (v0 := I (greater (lesser p0 b3) b0)) (v1 := I (greater (lesser p1 b4) b1)) (v2 := I (greater (lesser p2 b5) b2)) d0 d1 d2
 exact bodyPost_ret (v := .agg #[I (greater (lesser p0 b3) b0),I (greater (lesser p1 b4) b1),I (greater (lesser p2 b5) b2)]) (by simp [results,Tryz.results99,go_sem,e0,e1,e2]) rfl
  ⟨rfl,y07 ((((((Kept.refl w).alloc _ _).alloc _ _).alloc _ _).trans k1).alloc _ _ |>.trans k2) (by omega) _ _ _⟩
end Go.Proofs.YtbenlgandjjopaaGreatDoor
