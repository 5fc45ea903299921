/- . -/
import Derived.Test.YtbenlgandjjopaaGreatDoorN23
open Go.World renaming frozen?_setCell → zrb
namespace Go.Proofs.YtbenlgandjjopaaGreatDoor
set_option maxHeartbeats 8000000
open Go.ChangeShapes Go.WideShapes Go.ChangeAt Go.RowKit
set_option linter.unusedSimpArgs false
variable {w1 w w2 : World} {b0 b1 b2 b3 b4 : Nat} {v0 v1 v2 v3 v4 v5 v6 v7 v8 v9 v10 v11 v12 v13 : Value} {ka xa ya za p0 p1 p2 kb xb yb zb q0 q1 q2 : Int}
def Sh (w : World) (b0 b1 b2 b3 b4 : Nat) (v0 v1 v2 v3 v4 v5 v6 v7 v8 v9 v10 v11 v12 v13 : Value) (w' : World) : Prop :=
 Kept w w' ∧
 w'.cell? ⟨b0,0,none⟩ = some v0 ∧
 w'.cell? ⟨b0,1,none⟩ = some v1 ∧
 w'.cell? ⟨b0,2,none⟩ = some v2 ∧
 w'.cell? ⟨b0,3,none⟩ = some v3 ∧
 w'.cell? ⟨b1,0,none⟩ = some v4 ∧
 w'.cell? ⟨b1,1,none⟩ = some v5 ∧
 w'.cell? ⟨b1,2,none⟩ = some v6 ∧
 w'.cell? ⟨b2,0,none⟩ = some v7 ∧
 w'.cell? ⟨b2,1,none⟩ = some v8 ∧
 w'.cell? ⟨b2,2,none⟩ = some v9 ∧
 w'.cell? ⟨b2,3,none⟩ = some v10 ∧
 w'.cell? ⟨b3,0,none⟩ = some v11 ∧
 w'.cell? ⟨b3,1,none⟩ = some v12 ∧
 w'.cell? ⟨b3,2,none⟩ = some v13 ∧
 w'.cell? ⟨b4,0,none⟩ = some (cellV w' ⟨b4,0,none⟩) ∧
 w'.cell? ⟨b4,1,none⟩ = some (cellV w' ⟨b4,1,none⟩) ∧
 w'.cell? ⟨b4,2,none⟩ = some (cellV w' ⟨b4,2,none⟩) ∧
 w'.frozen? ⟨b4,0,none⟩ = false ∧
 w'.frozen? ⟨b4,1,none⟩ = false ∧
 w'.frozen? ⟨b4,2,none⟩ = false
theorem Sh.step (k : Kept w1 w2) (h : Sh w b0 b1 b2 b3 b4 v0 v1 v2 v3 v4 v5 v6 v7 v8 v9 v10 v11 v12 v13 w1) : Sh w b0 b1 b2 b3 b4 v0 v1 v2 v3 v4 v5 v6 v7 v8 v9 v10 v11 v12 v13 w2 := by
 obtain ⟨h0,h1,h2,h3,h4,h5,h6,h7,h8,h9,h10,h11,h12,h13,h14,h15,h16,h17,h18,h19,h20⟩ := h;exact ⟨h0.trans k,y00 k h1,y00 k h2,y00 k h3,y00 k h4,y00 k h5,y00 k h6,y00 k h7,y00 k h8,y00 k h9,y00 k h10,y00 k h11,y00 k h12,y00 k h13,y00 k h14,y06 k h15,y06 k h16,y06 k h17,y01 k h18,y01 k h19,y01 k h20⟩
theorem Sh.drew {w w1 : World} {b0 b1 b2 b3 b4 : Nat} {v0 v1 v2 v3 v4 v5 v6 v7 v8 v9 v10 v11 v12 v13 : Value} (h : Sh w b0 b1 b2 b3 b4 v0 v1 v2 v3 v4 v5 v6 v7 v8 v9 v10 v11 v12 v13 w1) : Sh w b0 b1 b2 b3 b4 v0 v1 v2 v3 v4 v5 v6 v7 v8 v9 v10 v11 v12 v13 w1.drew := h.step kd
theorem Sh.put (i : Nat) (v : Value) (ho : w.heap.size ≤ b4) (n0 : b0 ≠ b4) (n1 : b1 ≠ b4) (n2 : b2 ≠ b4) (n3 : b3 ≠ b4) (h : Sh w b0 b1 b2 b3 b4 v0 v1 v2 v3 v4 v5 v6 v7 v8 v9 v10 v11 v12 v13 w1) : Sh w b0 b1 b2 b3 b4 v0 v1 v2 v3 v4 v5 v6 v7 v8 v9 v10 v11 v12 v13 (w1.setCell (Y b4 i) v) := by
 obtain ⟨h0,h1,h2,h3,h4,h5,h6,h7,h8,h9,h10,h11,h12,h13,h14,h15,h16,h17,h18,h19,h20⟩ := h;exact ⟨h0.setCell (p := Y b4 i) ho v,(zf n0).trans h1,(zf n0).trans h2,(zf n0).trans h3,(zf n0).trans h4,(zf n1).trans h5,(zf n1).trans h6,(zf n1).trans h7,(zf n2).trans h8,(zf n2).trans h9,(zf n2).trans h10,(zf n2).trans h11,(zf n3).trans h12,(zf n3).trans h13,(zf n3).trans h14,y04 h15,y04 h16,y04 h17,(zrb _ _ _ _).trans h18,(zrb _ _ _ _).trans h19,(zrb _ _ _ _).trans h20⟩
def ShA (w : World) (b0 b1 b2 b3 : Nat) (v0 v1 v2 v3 v4 v5 v6 v7 v8 v9 v10 v11 v12 v13 : Value) (w' : World) : Prop :=
 Kept w w' ∧
 w'.cell? ⟨b0,0,none⟩ = some v0 ∧
 w'.cell? ⟨b0,1,none⟩ = some v1 ∧
 w'.cell? ⟨b0,2,none⟩ = some v2 ∧
 w'.cell? ⟨b0,3,none⟩ = some v3 ∧
 w'.cell? ⟨b1,0,none⟩ = some v4 ∧
 w'.cell? ⟨b1,1,none⟩ = some v5 ∧
 w'.cell? ⟨b1,2,none⟩ = some v6 ∧
 w'.cell? ⟨b2,0,none⟩ = some v7 ∧
 w'.cell? ⟨b2,1,none⟩ = some v8 ∧
 w'.cell? ⟨b2,2,none⟩ = some v9 ∧
 w'.cell? ⟨b2,3,none⟩ = some v10 ∧
 w'.cell? ⟨b3,0,none⟩ = some v11 ∧
 w'.cell? ⟨b3,1,none⟩ = some v12 ∧
 w'.cell? ⟨b3,2,none⟩ = some v13
theorem ShA.step (k : Kept w1 w2) (h : ShA w b0 b1 b2 b3 v0 v1 v2 v3 v4 v5 v6 v7 v8 v9 v10 v11 v12 v13 w1) : ShA w b0 b1 b2 b3 v0 v1 v2 v3 v4 v5 v6 v7 v8 v9 v10 v11 v12 v13 w2 := by
 obtain ⟨h0,h1,h2,h3,h4,h5,h6,h7,h8,h9,h10,h11,h12,h13,h14⟩ := h;exact ⟨h0.trans k,y00 k h1,y00 k h2,y00 k h3,y00 k h4,y00 k h5,y00 k h6,y00 k h7,y00 k h8,y00 k h9,y00 k h10,y00 k h11,y00 k h12,y00 k h13,y00 k h14⟩
theorem ShA.drew {w w1 : World} {b0 b1 b2 b3 : Nat} {v0 v1 v2 v3 v4 v5 v6 v7 v8 v9 v10 v11 v12 v13 : Value} (h : ShA w b0 b1 b2 b3 v0 v1 v2 v3 v4 v5 v6 v7 v8 v9 v10 v11 v12 v13 w1) : ShA w b0 b1 b2 b3 v0 v1 v2 v3 v4 v5 v6 v7 v8 v9 v10 v11 v12 v13 w1.drew := h.step kd
def ShAAt (b0 b1 b2 b3 : Nat) (v0 v1 v2 v3 v4 v5 v6 v7 v8 v9 v10 v11 v12 v13 : Value) (w' : World) : Prop :=
 w'.cell? ⟨b0,0,none⟩ = some v0 ∧
 w'.cell? ⟨b0,1,none⟩ = some v1 ∧
 w'.cell? ⟨b0,2,none⟩ = some v2 ∧
 w'.cell? ⟨b0,3,none⟩ = some v3 ∧
 w'.cell? ⟨b1,0,none⟩ = some v4 ∧
 w'.cell? ⟨b1,1,none⟩ = some v5 ∧
 w'.cell? ⟨b1,2,none⟩ = some v6 ∧
 w'.cell? ⟨b2,0,none⟩ = some v7 ∧
 w'.cell? ⟨b2,1,none⟩ = some v8 ∧
 w'.cell? ⟨b2,2,none⟩ = some v9 ∧
 w'.cell? ⟨b2,3,none⟩ = some v10 ∧
 w'.cell? ⟨b3,0,none⟩ = some v11 ∧
 w'.cell? ⟨b3,1,none⟩ = some v12 ∧
 w'.cell? ⟨b3,2,none⟩ = some v13
theorem ShAAt.step (k : Kept w1 w2) (h : ShAAt b0 b1 b2 b3 v0 v1 v2 v3 v4 v5 v6 v7 v8 v9 v10 v11 v12 v13 w1) : ShAAt b0 b1 b2 b3 v0 v1 v2 v3 v4 v5 v6 v7 v8 v9 v10 v11 v12 v13 w2 := by
 obtain ⟨h1,h2,h3,h4,h5,h6,h7,h8,h9,h10,h11,h12,h13,h14⟩ := h;exact ⟨y00 k h1,y00 k h2,y00 k h3,y00 k h4,y00 k h5,y00 k h6,y00 k h7,y00 k h8,y00 k h9,y00 k h10,y00 k h11,y00 k h12,y00 k h13,y00 k h14⟩
theorem ShAAt.start (h : ShAAt b0 b1 b2 b3 v0 v1 v2 v3 v4 v5 v6 v7 v8 v9 v10 v11 v12 v13 w1) : ShA w1 b0 b1 b2 b3 v0 v1 v2 v3 v4 v5 v6 v7 v8 v9 v10 v11 v12 v13 w1.drew := ⟨kd,h.step kd⟩
def turnT (t : T) : T := ⟨sub 0 t.x,sub 0 t.y,sub 0 t.z,t.d,t.ok⟩
def touchT (ka xa ya za p0 p1 p2 kb xb yb zb q0 q1 q2 : Int) : T :=
 if ka = 1 then if kb = 1 then (reachT (add xa xb) (sub q0 p0) (sub q1 p1) (sub q2 p2)) else (ballT xa p0 p1 p2 (sub q0 xb) (sub q1 (hf kb xb yb)) (sub q2 (hf kb xb zb)) (add q0 xb) (add q1 (hf kb xb yb)) (add q2 (hf kb xb zb)))
 else if kb = 1 then turnT (ballT xb q0 q1 q2 (sub p0 xa) (sub p1 (hf ka xa ya)) (sub p2 (hf ka xa za)) (add p0 xa) (add p1 (hf ka xa ya)) (add p2 (hf ka xa za))) else (boxesT (sub p0 xa) (sub p1 (hf ka xa ya)) (sub p2 (hf ka xa za)) (add p0 xa) (add p1 (hf ka xa ya)) (add p2 (hf ka xa za)) (sub q0 xb) (sub q1 (hf kb xb yb)) (sub q2 (hf kb xb zb)) (add q0 xb) (add q1 (hf kb xb yb)) (add q2 (hf kb xb zb)))
theorem y6b (h : ka = 1) (h' : kb = 1) : touchT ka xa ya za p0 p1 p2 kb xb yb zb q0 q1 q2 = (reachT (add xa xb) (sub q0 p0) (sub q1 p1) (sub q2 p2)) := by unfold touchT; rw [if_pos h,if_pos h']
theorem y3g (h : ka = 1) (h' : ¬ kb = 1) : touchT ka xa ya za p0 p1 p2 kb xb yb zb q0 q1 q2 = (ballT xa p0 p1 p2 (sub q0 xb) (sub q1 (hf kb xb yb)) (sub q2 (hf kb xb zb)) (add q0 xb) (add q1 (hf kb xb yb)) (add q2 (hf kb xb zb))) := by unfold touchT; rw [if_pos h,if_neg h']
theorem y3i (h : ¬ ka = 1) (h' : kb = 1) : touchT ka xa ya za p0 p1 p2 kb xb yb zb q0 q1 q2 = turnT (ballT xb q0 q1 q2 (sub p0 xa) (sub p1 (hf ka xa ya)) (sub p2 (hf ka xa za)) (add p0 xa) (add p1 (hf ka xa ya)) (add p2 (hf ka xa za))) := by unfold touchT; rw [if_neg h,if_pos h']
theorem y6h (h : ¬ ka = 1) (h' : ¬ kb = 1) : touchT ka xa ya za p0 p1 p2 kb xb yb zb q0 q1 q2 = (boxesT (sub p0 xa) (sub p1 (hf ka xa ya)) (sub p2 (hf ka xa za)) (add p0 xa) (add p1 (hf ka xa ya)) (add p2 (hf ka xa za)) (sub q0 xb) (sub q1 (hf kb xb yb)) (sub q2 (hf kb xb zb)) (add q0 xb) (add q1 (hf kb xb yb)) (add q2 (hf kb xb zb))) := by unfold touchT; rw [if_neg h,if_neg h']
theorem yhe (ka xa ya za p0 p1 p2 kb xb yb zb q0 q1 q2 : Int) (w : World) (h : ka = 1) (h' : kb = 1) : Calls Tryz.prog 58 #[.agg #[I ka,I xa,I ya,I za],.agg #[I p0,I p1,I p2],.agg #[I kb,I xb,I yb,I zb],.agg #[I q0,I q1,I q2]] w fun e w' => e = .returned (.tuple #[.agg #[I ((touchT ka xa ya za p0 p1 p2 kb xb yb zb q0 q1 q2).x),I ((touchT ka xa ya za p0 p1 p2 kb xb yb zb q0 q1 q2).y),I ((touchT ka xa ya za p0 p1 p2 kb xb yb zb q0 q1 q2).z)],I ((touchT ka xa ya za p0 p1 p2 kb xb yb zb q0 q1 q2).d),.bool (touchT ka xa ya za p0 p1 p2 kb xb yb zb q0 q1 q2).ok]) ∧ Kept w w' := by
 have hb : (ka == 1) = true := by simp [h]
 have hb' : (kb == 1) = true := by simp [h']
 rw [y6b h h'];clear h h';go_enter Tryz.func58,Tryz.ntmps58
 go_wp2
 refine wp_region_held_drew (S := (fun w' => Kept w w' ∧ Zc w' w.heap.size 0 ka ∧ Zc w' w.heap.size 1 xa ∧ Zc w' w.heap.size 2 ya ∧ Zc w' w.heap.size 3 za ∧ Zc w' (w.heap.size + 1) 0 p0 ∧ Zc w' (w.heap.size + 1) 1 p1 ∧ Zc w' (w.heap.size + 1) 2 p2 ∧ Zc w' (w.heap.size + 1 + 1) 0 kb ∧ Zc w' (w.heap.size + 1 + 1) 1 xb ∧ Zc w' (w.heap.size + 1 + 1) 2 yb ∧ Zc w' (w.heap.size + 1 + 1) 3 zb ∧ Zc w' (w.heap.size + 1 + 1 + 1) 0 q0 ∧ Zc w' (w.heap.size + 1 + 1 + 1) 1 q1 ∧ Zc w' (w.heap.size + 1 + 1 + 1) 2 q2 ∧ w'.cell? (Y (w.heap.size + 1 + 1 + 1 + 1) 0) = some (cellV w' (Y (w.heap.size + 1 + 1 + 1 + 1) 0)) ∧ w'.cell? (Y (w.heap.size + 1 + 1 + 1 + 1) 1) = some (cellV w' (Y (w.heap.size + 1 + 1 + 1 + 1) 1)) ∧ w'.cell? (Y (w.heap.size + 1 + 1 + 1 + 1) 2) = some (cellV w' (Y (w.heap.size + 1 + 1 + 1 + 1) 2)) ∧ w'.frozen? (Y (w.heap.size + 1 + 1 + 1 + 1) 0) = false ∧ w'.frozen? (Y (w.heap.size + 1 + 1 + 1 + 1) 1) = false ∧ w'.frozen? (Y (w.heap.size + 1 + 1 + 1 + 1) 2) = false)) (by kernel_rfl) ?_ (fun hJ1 => ?_)
 ·exact Sh.drew (by refine ⟨(((((Kept.refl w).alloc _ _).alloc _ _).alloc _ _).alloc _ _).alloc _ _,?_,?_,?_,?_,?_,?_,?_,?_,?_,?_,?_,?_,?_,?_,y02 (v := I 0) ?_,y02 (v := I 0) ?_,y02 (v := I 0) ?_,?_,?_,?_⟩ <;> go_simp)
 refine tkU 0 (h:=tkU 1 (h:=tkU 2 (h:=tkV 3 ?_)));try simp only [zP]
 refine tkU 4 (h:=tkU 5 (h:=tkU 7 (h:=tkV 8 ?_)));try simp only [zP]
 refine rdW 6 rfl fun K hK => ?_;simp only [zQ];go_simp
 (go_at_call 95; refine (y44 _ _ _).mono ?_; rintro e w1 ⟨rfl,k1⟩)
 try go_wp2_with fail
 refine hK.out _ _ ?_ fun hJ2 => ?_
 ·exact Sh.step k1 hJ1
 clear hK K hJ1;try simp only [zP]
 refine rdW 9 rfl fun K hK => ?_;simp only [zQ];go_simp
 (go_at_call 96; refine (y0o _ _ _ _ _ _ _).mono ?_; rintro e w2 ⟨rfl,k2⟩)
 try go_wp2_with fail
 refine hK.out _ _ ?_ fun hJ3 => ?_
 ·exact Sh.step k2 hJ2
 clear hK K hJ2;try simp only [zP]
 refine rdW 10 rfl fun K hK => ?_;simp only [zQ];go_simp
 (go_at_call 94; refine (y2h _ _ _ _ _).mono ?_; rintro e w3 ⟨rfl,k3⟩)
 try go_wp2_with fail
 refine hK.out _ _ ?_ fun hJ4 => ?_
 ·exact Sh.step k3 hJ3
 clear hK K hJ3;try simp only [zP]
 refine tkU 11 (h:=tkU 12 (h:=tkV 13 ?_));try simp only [zP]
 refine rdW 14 rfl fun K hK => ?_;simp only [zQ];go_simp;refine hK.out _ _ ?_ fun hJ5 => ?_
 ·exact (Sh.put 2 _ (by omega) (by omega) (by omega) (by omega) (by omega) (Sh.put 1 _ (by omega) (by omega) (by omega) (by omega) (by omega) (Sh.put 0 _ (by omega) (by omega) (by omega) (by omega) (by omega) hJ4)))
 clear hK K;try simp only [zP]
 refine tkU 15 (h:=tkV 16 ?_);try simp only [zP]
 refine wpAnyH_done (by kernel_rfl) ?_ _;go_wp2
 obtain ⟨hk,_,_,_,_,_,_,_,_,_,_,_,_,_,_,c0,c1,c2,_⟩ := hJ4;obtain ⟨e0,e1,e2⟩ := y0b (v0 := I ((reachT (add xa xb) (sub q0 p0) (sub q1 p1) (sub q2 p2)).x)) (v1 := I ((reachT (add xa xb) (sub q0 p0) (sub q1 p1) (sub q2 p2)).y)) (v2 := I ((reachT (add xa xb) (sub q0 p0) (sub q1 p1) (sub q2 p2)).z)) c0 c1 c2;exact bodyPost_ret (v := .tuple #[.agg #[I ((reachT (add xa xb) (sub q0 p0) (sub q1 p1) (sub q2 p2)).x),I ((reachT (add xa xb) (sub q0 p0) (sub q1 p1) (sub q2 p2)).y),I ((reachT (add xa xb) (sub q0 p0) (sub q1 p1) (sub q2 p2)).z)],I ((reachT (add xa xb) (sub q0 p0) (sub q1 p1) (sub q2 p2)).d),.bool (reachT (add xa xb) (sub q0 p0) (sub q1 p1) (sub q2 p2)).ok]) (by simp [results,Tryz.results58,go_sem,e0,e1,e2]) rfl ⟨rfl,y07 hk (by omega) _ _ _⟩
theorem yh3 (ka xa ya za p0 p1 p2 kb xb yb zb q0 q1 q2 : Int) (w : World) (h : ka = 1) (h' : ¬ kb = 1) : Calls Tryz.prog 58 #[.agg #[I ka,I xa,I ya,I za],.agg #[I p0,I p1,I p2],.agg #[I kb,I xb,I yb,I zb],.agg #[I q0,I q1,I q2]] w fun e w' => e = .returned (.tuple #[.agg #[I ((touchT ka xa ya za p0 p1 p2 kb xb yb zb q0 q1 q2).x),I ((touchT ka xa ya za p0 p1 p2 kb xb yb zb q0 q1 q2).y),I ((touchT ka xa ya za p0 p1 p2 kb xb yb zb q0 q1 q2).z)],I ((touchT ka xa ya za p0 p1 p2 kb xb yb zb q0 q1 q2).d),.bool (touchT ka xa ya za p0 p1 p2 kb xb yb zb q0 q1 q2).ok]) ∧ Kept w w' := by
 have hb : (ka == 1) = true := by simp [h]
 have hb' : (kb == 1) = false := by simp [h']
 rw [y3g h h'];clear h h';go_enter Tryz.func58,Tryz.ntmps58
 go_wp2
 refine wp_region_held_drew (S := (fun w' => Kept w w' ∧ Zc w' w.heap.size 0 ka ∧ Zc w' w.heap.size 1 xa ∧ Zc w' w.heap.size 2 ya ∧ Zc w' w.heap.size 3 za ∧ Zc w' (w.heap.size + 1) 0 p0 ∧ Zc w' (w.heap.size + 1) 1 p1 ∧ Zc w' (w.heap.size + 1) 2 p2 ∧ Zc w' (w.heap.size + 1 + 1) 0 kb ∧ Zc w' (w.heap.size + 1 + 1) 1 xb ∧ Zc w' (w.heap.size + 1 + 1) 2 yb ∧ Zc w' (w.heap.size + 1 + 1) 3 zb ∧ Zc w' (w.heap.size + 1 + 1 + 1) 0 q0 ∧ Zc w' (w.heap.size + 1 + 1 + 1) 1 q1 ∧ Zc w' (w.heap.size + 1 + 1 + 1) 2 q2 ∧ w'.cell? (Y (w.heap.size + 1 + 1 + 1 + 1) 0) = some (cellV w' (Y (w.heap.size + 1 + 1 + 1 + 1) 0)) ∧ w'.cell? (Y (w.heap.size + 1 + 1 + 1 + 1) 1) = some (cellV w' (Y (w.heap.size + 1 + 1 + 1 + 1) 1)) ∧ w'.cell? (Y (w.heap.size + 1 + 1 + 1 + 1) 2) = some (cellV w' (Y (w.heap.size + 1 + 1 + 1 + 1) 2)) ∧ w'.frozen? (Y (w.heap.size + 1 + 1 + 1 + 1) 0) = false ∧ w'.frozen? (Y (w.heap.size + 1 + 1 + 1 + 1) 1) = false ∧ w'.frozen? (Y (w.heap.size + 1 + 1 + 1 + 1) 2) = false)) (by kernel_rfl) ?_ (fun hJ1 => ?_)
 ·exact Sh.drew (by refine ⟨(((((Kept.refl w).alloc _ _).alloc _ _).alloc _ _).alloc _ _).alloc _ _,?_,?_,?_,?_,?_,?_,?_,?_,?_,?_,?_,?_,?_,?_,y02 (v := I 0) ?_,y02 (v := I 0) ?_,y02 (v := I 0) ?_,?_,?_,?_⟩ <;> go_simp)
 refine tkU 0 (h:=tkU 1 (h:=tkU 2 (h:=tkV 3 ?_)));try simp only [zP]
 refine tkU 4 (h:=tkV 5 ?_);try simp only [zP]
 refine rdW 6 rfl fun K hK => ?_;simp only [zQ];go_simp
 (go_at_call 69; refine (y1q _ _ _ _ _ _ _ _).mono ?_; rintro e w1 ⟨rfl,k1⟩)
 try go_wp2_with fail
 refine hK.out _ _ ?_ fun hJ2 => ?_
 ·exact Sh.step k1 hJ1
 clear hK K hJ1;try simp only [zP]
 refine rdW 7 rfl fun K hK => ?_;simp only [zQ];go_simp
 (go_at_call 97; refine (y1r _ _ _ _ _ _ _ _ _ _ _).mono ?_; rintro e w2 ⟨rfl,k2⟩)
 try go_wp2_with fail
 refine hK.out _ _ ?_ fun hJ3 => ?_
 ·exact Sh.step k2 hJ2
 clear hK K hJ2;try simp only [zP]
 refine tkU 8 (h:=tkU 9 (h:=tkV 10 ?_));try simp only [zP]
 refine rdW 11 rfl fun K hK => ?_;simp only [zQ];go_simp;refine hK.out _ _ ?_ fun hJ4 => ?_
 ·exact (Sh.put 2 _ (by omega) (by omega) (by omega) (by omega) (by omega) (Sh.put 1 _ (by omega) (by omega) (by omega) (by omega) (by omega) (Sh.put 0 _ (by omega) (by omega) (by omega) (by omega) (by omega) hJ3)))
 clear hK K;try simp only [zP]
 refine tkU 12 (h:=tkV 13 ?_);try simp only [zP]
 refine wpAnyH_done (by kernel_rfl) ?_ _;go_wp2
 obtain ⟨hk,_,_,_,_,_,_,_,_,_,_,_,_,_,_,c0,c1,c2,_⟩ := hJ3;obtain ⟨e0,e1,e2⟩ := y0b (v0 := I ((ballT xa p0 p1 p2 (sub q0 xb) (sub q1 (hf kb xb yb)) (sub q2 (hf kb xb zb)) (add q0 xb) (add q1 (hf kb xb yb)) (add q2 (hf kb xb zb))).x)) (v1 := I ((ballT xa p0 p1 p2 (sub q0 xb) (sub q1 (hf kb xb yb)) (sub q2 (hf kb xb zb)) (add q0 xb) (add q1 (hf kb xb yb)) (add q2 (hf kb xb zb))).y)) (v2 := I ((ballT xa p0 p1 p2 (sub q0 xb) (sub q1 (hf kb xb yb)) (sub q2 (hf kb xb zb)) (add q0 xb) (add q1 (hf kb xb yb)) (add q2 (hf kb xb zb))).z)) c0 c1 c2;exact bodyPost_ret (v := .tuple #[.agg #[I ((ballT xa p0 p1 p2 (sub q0 xb) (sub q1 (hf kb xb yb)) (sub q2 (hf kb xb zb)) (add q0 xb) (add q1 (hf kb xb yb)) (add q2 (hf kb xb zb))).x),I ((ballT xa p0 p1 p2 (sub q0 xb) (sub q1 (hf kb xb yb)) (sub q2 (hf kb xb zb)) (add q0 xb) (add q1 (hf kb xb yb)) (add q2 (hf kb xb zb))).y),I ((ballT xa p0 p1 p2 (sub q0 xb) (sub q1 (hf kb xb yb)) (sub q2 (hf kb xb zb)) (add q0 xb) (add q1 (hf kb xb yb)) (add q2 (hf kb xb zb))).z)],I ((ballT xa p0 p1 p2 (sub q0 xb) (sub q1 (hf kb xb yb)) (sub q2 (hf kb xb zb)) (add q0 xb) (add q1 (hf kb xb yb)) (add q2 (hf kb xb zb))).d),.bool (ballT xa p0 p1 p2 (sub q0 xb) (sub q1 (hf kb xb yb)) (sub q2 (hf kb xb zb)) (add q0 xb) (add q1 (hf kb xb yb)) (add q2 (hf kb xb zb))).ok]) (by simp [results,Tryz.results58,go_sem,e0,e1,e2]) rfl ⟨rfl,y07 hk (by omega) _ _ _⟩
theorem yij (ka xa ya za p0 p1 p2 kb xb yb zb q0 q1 q2 : Int) (w : World) (h : ¬ ka = 1) (h' : ¬ kb = 1) : Calls Tryz.prog 58 #[.agg #[I ka,I xa,I ya,I za],.agg #[I p0,I p1,I p2],.agg #[I kb,I xb,I yb,I zb],.agg #[I q0,I q1,I q2]] w fun e w' => e = .returned (.tuple #[.agg #[I ((touchT ka xa ya za p0 p1 p2 kb xb yb zb q0 q1 q2).x),I ((touchT ka xa ya za p0 p1 p2 kb xb yb zb q0 q1 q2).y),I ((touchT ka xa ya za p0 p1 p2 kb xb yb zb q0 q1 q2).z)],I ((touchT ka xa ya za p0 p1 p2 kb xb yb zb q0 q1 q2).d),.bool (touchT ka xa ya za p0 p1 p2 kb xb yb zb q0 q1 q2).ok]) ∧ Kept w w' := by
 have hb : (ka == 1) = false := by simp [h]
 have hb' : (kb == 1) = false := by simp [h']
 rw [y6h h h'];clear h h';go_enter Tryz.func58,Tryz.ntmps58
 go_wp2
 refine wp_region_held_drew (S := (fun w' => Kept w w' ∧ Zc w' w.heap.size 0 ka ∧ Zc w' w.heap.size 1 xa ∧ Zc w' w.heap.size 2 ya ∧ Zc w' w.heap.size 3 za ∧ Zc w' (w.heap.size + 1) 0 p0 ∧ Zc w' (w.heap.size + 1) 1 p1 ∧ Zc w' (w.heap.size + 1) 2 p2 ∧ Zc w' (w.heap.size + 1 + 1) 0 kb ∧ Zc w' (w.heap.size + 1 + 1) 1 xb ∧ Zc w' (w.heap.size + 1 + 1) 2 yb ∧ Zc w' (w.heap.size + 1 + 1) 3 zb ∧ Zc w' (w.heap.size + 1 + 1 + 1) 0 q0 ∧ Zc w' (w.heap.size + 1 + 1 + 1) 1 q1 ∧ Zc w' (w.heap.size + 1 + 1 + 1) 2 q2 ∧ w'.cell? (Y (w.heap.size + 1 + 1 + 1 + 1) 0) = some (cellV w' (Y (w.heap.size + 1 + 1 + 1 + 1) 0)) ∧ w'.cell? (Y (w.heap.size + 1 + 1 + 1 + 1) 1) = some (cellV w' (Y (w.heap.size + 1 + 1 + 1 + 1) 1)) ∧ w'.cell? (Y (w.heap.size + 1 + 1 + 1 + 1) 2) = some (cellV w' (Y (w.heap.size + 1 + 1 + 1 + 1) 2)) ∧ w'.frozen? (Y (w.heap.size + 1 + 1 + 1 + 1) 0) = false ∧ w'.frozen? (Y (w.heap.size + 1 + 1 + 1 + 1) 1) = false ∧ w'.frozen? (Y (w.heap.size + 1 + 1 + 1 + 1) 2) = false)) (by kernel_rfl) ?_ (fun hJ1 => ?_)
 ·exact Sh.drew (by refine ⟨(((((Kept.refl w).alloc _ _).alloc _ _).alloc _ _).alloc _ _).alloc _ _,?_,?_,?_,?_,?_,?_,?_,?_,?_,?_,?_,?_,?_,?_,y02 (v := I 0) ?_,y02 (v := I 0) ?_,y02 (v := I 0) ?_,?_,?_,?_⟩ <;> go_simp)
 refine tkU 0 (h:=tkU 1 (h:=tkU 3 (h:=tkV 4 ?_)));try simp only [zP]
 refine rdW 2 rfl fun K hK => ?_;simp only [zQ];go_simp
 (go_at_call 69; refine (y1q _ _ _ _ _ _ _ _).mono ?_; rintro e w1 ⟨rfl,k1⟩)
 try go_wp2_with fail
 refine hK.out _ _ ?_ fun hJ2 => ?_
 ·exact Sh.step k1 hJ1
 clear hK K hJ1;try simp only [zP]
 refine rdW 5 rfl fun K hK => ?_;simp only [zQ];go_simp
 (go_at_call 69; refine (y1q _ _ _ _ _ _ _ _).mono ?_; rintro e w2 ⟨rfl,k2⟩)
 try go_wp2_with fail
 refine hK.out _ _ ?_ fun hJ3 => ?_
 ·exact Sh.step k2 hJ2
 clear hK K hJ2;try simp only [zP]
 refine rdW 6 rfl fun K hK => ?_;simp only [zQ];go_simp
 (go_at_call 98; refine (y7f _ _ _ _ _ _ _ _ _ _ _ _ _).mono ?_; rintro e w3 ⟨rfl,k3⟩)
 try go_wp2_with fail
 refine hK.out _ _ ?_ fun hJ4 => ?_
 ·exact Sh.step k3 hJ3
 clear hK K hJ3;try simp only [zP]
 refine tkU 7 (h:=tkU 8 (h:=tkV 9 ?_));try simp only [zP]
 refine rdW 10 rfl fun K hK => ?_;simp only [zQ];go_simp;refine hK.out _ _ ?_ fun hJ5 => ?_
 ·exact (Sh.put 2 _ (by omega) (by omega) (by omega) (by omega) (by omega) (Sh.put 1 _ (by omega) (by omega) (by omega) (by omega) (by omega) (Sh.put 0 _ (by omega) (by omega) (by omega) (by omega) (by omega) hJ4)))
 clear hK K;try simp only [zP]
 refine tkU 11 (h:=tkV 12 ?_);try simp only [zP]
 refine wpAnyH_done (by kernel_rfl) ?_ _;go_wp2
 obtain ⟨hk,_,_,_,_,_,_,_,_,_,_,_,_,_,_,c0,c1,c2,_⟩ := hJ4;obtain ⟨e0,e1,e2⟩ := y0b (v0 := I ((boxesT (sub p0 xa) (sub p1 (hf ka xa ya)) (sub p2 (hf ka xa za)) (add p0 xa) (add p1 (hf ka xa ya)) (add p2 (hf ka xa za)) (sub q0 xb) (sub q1 (hf kb xb yb)) (sub q2 (hf kb xb zb)) (add q0 xb) (add q1 (hf kb xb yb)) (add q2 (hf kb xb zb))).x)) (v1 := I ((boxesT (sub p0 xa) (sub p1 (hf ka xa ya)) (sub p2 (hf ka xa za)) (add p0 xa) (add p1 (hf ka xa ya)) (add p2 (hf ka xa za)) (sub q0 xb) (sub q1 (hf kb xb yb)) (sub q2 (hf kb xb zb)) (add q0 xb) (add q1 (hf kb xb yb)) (add q2 (hf kb xb zb))).y)) (v2 := I ((boxesT (sub p0 xa) (sub p1 (hf ka xa ya)) (sub p2 (hf ka xa za)) (add p0 xa) (add p1 (hf ka xa ya)) (add p2 (hf ka xa za)) (sub q0 xb) (sub q1 (hf kb xb yb)) (sub q2 (hf kb xb zb)) (add q0 xb) (add q1 (hf kb xb yb)) (add q2 (hf kb xb zb))).z)) c0 c1 c2;exact bodyPost_ret (v := .tuple #[.agg #[I ((boxesT (sub p0 xa) (sub p1 (hf ka xa ya)) (sub p2 (hf ka xa za)) (add p0 xa) (add p1 (hf ka xa ya)) (add p2 (hf ka xa za)) (sub q0 xb) (sub q1 (hf kb xb yb)) (sub q2 (hf kb xb zb)) (add q0 xb) (add q1 (hf kb xb yb)) (add q2 (hf kb xb zb))).x),I ((boxesT (sub p0 xa) (sub p1 (hf ka xa ya)) (sub p2 (hf ka xa za)) (add p0 xa) (add p1 (hf ka xa ya)) (add p2 (hf ka xa za)) (sub q0 xb) (sub q1 (hf kb xb yb)) (sub q2 (hf kb xb zb)) (add q0 xb) (add q1 (hf kb xb yb)) (add q2 (hf kb xb zb))).y),I ((boxesT (sub p0 xa) (sub p1 (hf ka xa ya)) (sub p2 (hf ka xa za)) (add p0 xa) (add p1 (hf ka xa ya)) (add p2 (hf ka xa za)) (sub q0 xb) (sub q1 (hf kb xb yb)) (sub q2 (hf kb xb zb)) (add q0 xb) (add q1 (hf kb xb yb)) (add q2 (hf kb xb zb))).z)],I ((boxesT (sub p0 xa) (sub p1 (hf ka xa ya)) (sub p2 (hf ka xa za)) (add p0 xa) (add p1 (hf ka xa ya)) (add p2 (hf ka xa za)) (sub q0 xb) (sub q1 (hf kb xb yb)) (sub q2 (hf kb xb zb)) (add q0 xb) (add q1 (hf kb xb yb)) (add q2 (hf kb xb zb))).d),.bool (boxesT (sub p0 xa) (sub p1 (hf ka xa ya)) (sub p2 (hf ka xa za)) (add p0 xa) (add p1 (hf ka xa ya)) (add p2 (hf ka xa za)) (sub q0 xb) (sub q1 (hf kb xb yb)) (sub q2 (hf kb xb zb)) (add q0 xb) (add q1 (hf kb xb yb)) (add q2 (hf kb xb zb))).ok]) (by simp [results,Tryz.results58,go_sem,e0,e1,e2]) rfl ⟨rfl,y07 hk (by omega) _ _ _⟩
def Fr3 (w : World) (b0 : Nat) (w' : World) : Prop :=
 Kept w w' ∧
 w'.cell? ⟨b0,0,none⟩ = some (cellV w' ⟨b0,0,none⟩) ∧
 w'.cell? ⟨b0,1,none⟩ = some (cellV w' ⟨b0,1,none⟩) ∧
 w'.cell? ⟨b0,2,none⟩ = some (cellV w' ⟨b0,2,none⟩) ∧
 w'.frozen? ⟨b0,0,none⟩ = false ∧
 w'.frozen? ⟨b0,1,none⟩ = false ∧
 w'.frozen? ⟨b0,2,none⟩ = false
theorem Fr3.step (k : Kept w1 w2) (h : Fr3 w b0 w1) : Fr3 w b0 w2 := by
 obtain ⟨h0,h1,h2,h3,h4,h5,h6⟩ := h;exact ⟨h0.trans k,y06 k h1,y06 k h2,y06 k h3,y01 k h4,y01 k h5,y01 k h6⟩
theorem Fr3.drew {w w1 : World} {b0 : Nat} (h : Fr3 w b0 w1) : Fr3 w b0 w1.drew := h.step kd
theorem Fr3.put (i : Nat) (v : Value) (ho : w.heap.size ≤ b0)  (h : Fr3 w b0 w1) : Fr3 w b0 (w1.setCell (Y b0 i) v) := by
 obtain ⟨h0,h1,h2,h3,h4,h5,h6⟩ := h;exact ⟨h0.setCell (p := Y b0 i) ho v,y04 h1,y04 h2,y04 h3,(zrb _ _ _ _).trans h4,(zrb _ _ _ _).trans h5,(zrb _ _ _ _).trans h6⟩
theorem yh4 (ka xa ya za p0 p1 p2 kb xb yb zb q0 q1 q2 : Int) (w : World) (h : ¬ ka = 1) (h' : kb = 1) : Calls Tryz.prog 58 #[.agg #[I ka,I xa,I ya,I za],.agg #[I p0,I p1,I p2],.agg #[I kb,I xb,I yb,I zb],.agg #[I q0,I q1,I q2]] w fun e w' => e = .returned (.tuple #[.agg #[I ((touchT ka xa ya za p0 p1 p2 kb xb yb zb q0 q1 q2).x),I ((touchT ka xa ya za p0 p1 p2 kb xb yb zb q0 q1 q2).y),I ((touchT ka xa ya za p0 p1 p2 kb xb yb zb q0 q1 q2).z)],I ((touchT ka xa ya za p0 p1 p2 kb xb yb zb q0 q1 q2).d),.bool (touchT ka xa ya za p0 p1 p2 kb xb yb zb q0 q1 q2).ok]) ∧ Kept w w' := by
 have hb : (ka == 1) = false := by simp [h]
 have hb' : (kb == 1) = true := by simp [h']
 rw [y3i h h'];clear h h';go_enter Tryz.func58,Tryz.ntmps58
 go_wp2
 have HA : ShAAt (w.heap.size) (w.heap.size + 1) (w.heap.size + 1 + 1) (w.heap.size + 1 + 1 + 1) (I ka) (I xa) (I ya) (I za) (I p0) (I p1) (I p2) (I kb) (I xb) (I yb) (I zb) (I q0) (I q1) (I q2) (((((w.alloc (.cells #[I ka,I xa,I ya,I za] 43)).alloc (.cells #[I p0,I p1,I p2] 23)).alloc (.cells #[I kb,I xb,I yb,I zb] 43)).alloc (.cells #[I q0,I q1,I q2] 23)).alloc (.cells #[I 0,I 0,I 0] 23)) := by
  refine ⟨?_,?_,?_,?_,?_,?_,?_,?_,?_,?_,?_,?_,?_,?_⟩ <;> go_simp
 have hkA : Kept w (((((w.alloc (.cells #[I ka,I xa,I ya,I za] 43)).alloc (.cells #[I p0,I p1,I p2] 23)).alloc (.cells #[I kb,I xb,I yb,I zb] 43)).alloc (.cells #[I q0,I q1,I q2] 23)).alloc (.cells #[I 0,I 0,I 0] 23)) := (((((Kept.refl w).alloc _ _).alloc _ _).alloc _ _).alloc _ _).alloc _ _
 have RC : ∀ i,i < 3 → (((((w.alloc (.cells #[I ka,I xa,I ya,I za] 43)).alloc (.cells #[I p0,I p1,I p2] 23)).alloc (.cells #[I kb,I xb,I yb,I zb] 43)).alloc (.cells #[I q0,I q1,I q2] 23)).alloc (.cells #[I 0,I 0,I 0] 23)).cell? (Y (w.heap.size + 1 + 1 + 1 + 1) i) = some (I 0) := by
  intro i hi;obtain rfl | rfl | rfl : i = 0 ∨ i = 1 ∨ i = 2 := by omega
  all_goals go_simp
 have RF : ∀ i,(((((w.alloc (.cells #[I ka,I xa,I ya,I za] 43)).alloc (.cells #[I p0,I p1,I p2] 23)).alloc (.cells #[I kb,I xb,I yb,I zb] 43)).alloc (.cells #[I q0,I q1,I q2] 23)).alloc (.cells #[I 0,I 0,I 0] 23)).frozen? (Y (w.heap.size + 1 + 1 + 1 + 1) i) = false := by intro i; go_simp
 generalize (((((w.alloc (.cells #[I ka,I xa,I ya,I za] 43)).alloc (.cells #[I p0,I p1,I p2] 23)).alloc (.cells #[I kb,I xb,I yb,I zb] 43)).alloc (.cells #[I q0,I q1,I q2] 23)).alloc (.cells #[I 0,I 0,I 0] 23)) = wA at HA hkA RC RF ⊢;have RC' : Aside _ := RC;have RF' : Aside _ := RF;clear RC RF;go_cut [11,12,13] from 14 (fun s11 s12 s13 wc => ∃ p,s11 = .pointer (some (Y p 0)) ∧ s12 = I ((ballT xb q0 q1 q2 (sub p0 xa) (sub p1 (hf ka xa ya)) (sub p2 (hf ka xa za)) (add p0 xa) (add p1 (hf ka xa ya)) (add p2 (hf ka xa za))).d) ∧ s13 = .bool (ballT xb q0 q1 q2 (sub p0 xa) (sub p1 (hf ka xa ya)) (sub p2 (hf ka xa za)) (add p0 xa) (add p1 (hf ka xa ya)) (add p2 (hf ka xa za))).ok ∧ Kept wA wc ∧ wc.cell? (Y p 0) = some (I ((ballT xb q0 q1 q2 (sub p0 xa) (sub p1 (hf ka xa ya)) (sub p2 (hf ka xa za)) (add p0 xa) (add p1 (hf ka xa ya)) (add p2 (hf ka xa za))).x)) ∧ wc.cell? (Y p 1) = some (I ((ballT xb q0 q1 q2 (sub p0 xa) (sub p1 (hf ka xa ya)) (sub p2 (hf ka xa za)) (add p0 xa) (add p1 (hf ka xa ya)) (add p2 (hf ka xa za))).y)) ∧ wc.cell? (Y p 2) = some (I ((ballT xb q0 q1 q2 (sub p0 xa) (sub p1 (hf ka xa ya)) (sub p2 (hf ka xa za)) (add p0 xa) (add p1 (hf ka xa ya)) (add p2 (hf ka xa za))).z)))
 case first =>
  refine wp_region_held_drew (S := (fun w' => Kept wA w' ∧ Zc w' w.heap.size 0 ka ∧ Zc w' w.heap.size 1 xa ∧ Zc w' w.heap.size 2 ya ∧ Zc w' w.heap.size 3 za ∧ Zc w' (w.heap.size + 1) 0 p0 ∧ Zc w' (w.heap.size + 1) 1 p1 ∧ Zc w' (w.heap.size + 1) 2 p2 ∧ Zc w' (w.heap.size + 1 + 1) 0 kb ∧ Zc w' (w.heap.size + 1 + 1) 1 xb ∧ Zc w' (w.heap.size + 1 + 1) 2 yb ∧ Zc w' (w.heap.size + 1 + 1) 3 zb ∧ Zc w' (w.heap.size + 1 + 1 + 1) 0 q0 ∧ Zc w' (w.heap.size + 1 + 1 + 1) 1 q1 ∧ Zc w' (w.heap.size + 1 + 1 + 1) 2 q2)) (by kernel_rfl) ?_ (fun hH0 => ?_)
  ·exact ⟨kd,HA.step kd⟩
  refine tkU 0 (h:=tkU 1 (h:=tkU 2 (h:=tkV 3 ?_)));try simp only [zP]
  refine tkU 4 (h:=tkV 5 ?_);try simp only [zP]
  refine wpAnyH_ready (rs := [6,12]) (by kernel_rfl) (by simp) ?_;refine AllReadyH.cons rfl (fun K hK => ?_) (AllReadyH.cons rfl (fun K hK => ?_) AllReadyH.nil)
  ·rw [if_pos (by rfl)]
   simp only [zQ];go_simp
   (go_at_call 69; refine (y1q _ _ _ _ _ _ _ _).mono ?_; rintro e wc1 ⟨rfl,kc1⟩)
   try go_wp2_with fail
   refine hK.out _ _ ?_ fun hH1 => ?_
   ·exact ⟨hH0.1.trans kc1,HA.step (hH0.1.trans kc1)⟩
   clear hK K hH0;try simp only [zP]
   refine wpAnyH_ready (rs := [7,12]) (by kernel_rfl) (by simp) ?_;refine AllReadyH.cons rfl (fun K hK => ?_) (AllReadyH.cons rfl (fun K hK => ?_) AllReadyH.nil)
   ·rw [if_pos (by rfl)]
    simp only [zQ];go_simp
    (go_at_call 97; refine (y1r _ _ _ _ _ _ _ _ _ _ _).mono ?_; rintro e wc2 ⟨rfl,kc2⟩)
    try go_wp2_with fail
    refine hK.out _ _ ?_ fun hH2 => ?_
    ·exact ⟨hH1.1.trans kc2,HA.step (hH1.1.trans kc2)⟩
    clear hK K hH1;try simp only [zP]
    refine tkU 8 (h:=tkU 9 (h:=tkU 10 (h:=tkV 11 ?_)));try simp only [zP]
    refine rdW 12 rfl fun K hK => ?_;simp only [zQ];go_simp;refine hK.out _ _ ?_ fun hH3 => ?_
    ·exact ⟨hH2.1.alloc _ _,HA.step (hH2.1.alloc _ _)⟩
    have hp : wA.heap.size ≤ wc2.heap.size := Nat.le_trans hH2.1.below.size (Nat.le_of_eq (by simp));have hP : Fr3 wA (wc2.heap.size) (wc2.alloc (.cells #[I 0,I 0,I 0] 23)) := by refine ⟨hH2.1.alloc _ _,y02 (v := I 0) ?_,y02 (v := I 0) ?_,y02 (v := I 0) ?_,?_,?_,?_⟩ <;> go_simp
    clear hK K hH2;try simp only [zP]
    generalize (wc2.alloc (.cells #[I 0,I 0,I 0] 23)) = wz4 at hH3 hP ⊢;have hP0 := hP;obtain ⟨_,cp0,cp1,cp2,fp0,fp1,fp2⟩ := hP0;refine rdW 13 rfl fun K hK => ?_;simp only [zQ];go_simp;refine hK.out _ _ ?_ fun hS1 => ?_
    ·exact ⟨y07 hH3.1 hp _ _ _,HA.step (y07 hH3.1 hp _ _ _)⟩
    clear hK K;try simp only [zP]
    refine tkU 14 (h:=tkV 15 ?_);try simp only [zP]
    refine wpAnyH_done (by kernel_rfl) ?_ _;go_wp2_with fail
    go_meet
    case rel =>
     obtain ⟨z0,z1,z2⟩ := y0b (v0 := I (ballT xb q0 q1 q2 (sub p0 xa) (sub p1 (hf ka xa ya)) (sub p2 (hf ka xa za)) (add p0 xa) (add p1 (hf ka xa ya)) (add p2 (hf ka xa za))).x) (v1 := I (ballT xb q0 q1 q2 (sub p0 xa) (sub p1 (hf ka xa ya)) (sub p2 (hf ka xa za)) (add p0 xa) (add p1 (hf ka xa ya)) (add p2 (hf ka xa za))).y) (v2 := I (ballT xb q0 q1 q2 (sub p0 xa) (sub p1 (hf ka xa ya)) (sub p2 (hf ka xa za)) (add p0 xa) (add p1 (hf ka xa ya)) (add p2 (hf ka xa za))).z) cp0 cp1 cp2;exact ⟨wc2.heap.size,rfl,rfl,rfl,hS1.1,z0,z1,z2⟩
   ·rw [if_pos (by rfl)]
    simp only [zQ];go_simp;refine hK.out _ _ ?_ fun hH5 => ?_
    ·exact ⟨hH1.1.alloc _ _,HA.step (hH1.1.alloc _ _)⟩
    have hp : wA.heap.size ≤ wc1.heap.size := Nat.le_trans hH1.1.below.size (Nat.le_of_eq (by simp));have hP : Fr3 wA (wc1.heap.size) (wc1.alloc (.cells #[I 0,I 0,I 0] 23)) := by refine ⟨hH1.1.alloc _ _,y02 (v := I 0) ?_,y02 (v := I 0) ?_,y02 (v := I 0) ?_,?_,?_,?_⟩ <;> go_simp
    clear hK K hH1;try simp only [zP]
    refine rdW 7 rfl fun K hK => ?_;simp only [zQ];go_simp
    (go_at_call 97; refine (y1r _ _ _ _ _ _ _ _ _ _ _).mono ?_; rintro e wc6 ⟨rfl,kc6⟩)
    try go_wp2_with fail
    refine hK.out _ _ ?_ fun hH6 => ?_
    ·exact ⟨hH5.1.trans kc6,HA.step (hH5.1.trans kc6)⟩
    replace hP := hP.step kc6;clear hK K hH5;try simp only [zP]
    refine tkU 8 (h:=tkU 9 (h:=tkU 10 (h:=tkV 11 ?_)));try simp only [zP]
    have hP0 := hP;obtain ⟨_,cp0,cp1,cp2,fp0,fp1,fp2⟩ := hP0;refine rdW 13 rfl fun K hK => ?_;simp only [zQ];go_simp;refine hK.out _ _ ?_ fun hS1 => ?_
    ·exact ⟨y07 hH6.1 hp _ _ _,HA.step (y07 hH6.1 hp _ _ _)⟩
    clear hK K;try simp only [zP]
    refine tkU 14 (h:=tkV 15 ?_);try simp only [zP]
    refine wpAnyH_done (by kernel_rfl) ?_ _;go_wp2_with fail
    go_meet
    case rel =>
     obtain ⟨z0,z1,z2⟩ := y0b (v0 := I (ballT xb q0 q1 q2 (sub p0 xa) (sub p1 (hf ka xa ya)) (sub p2 (hf ka xa za)) (add p0 xa) (add p1 (hf ka xa ya)) (add p2 (hf ka xa za))).x) (v1 := I (ballT xb q0 q1 q2 (sub p0 xa) (sub p1 (hf ka xa ya)) (sub p2 (hf ka xa za)) (add p0 xa) (add p1 (hf ka xa ya)) (add p2 (hf ka xa za))).y) (v2 := I (ballT xb q0 q1 q2 (sub p0 xa) (sub p1 (hf ka xa ya)) (sub p2 (hf ka xa za)) (add p0 xa) (add p1 (hf ka xa ya)) (add p2 (hf ka xa za))).z) cp0 cp1 cp2;exact ⟨wc1.heap.size,rfl,rfl,rfl,hS1.1,z0,z1,z2⟩
  ·rw [if_pos (by rfl)]
   simp only [zQ];go_simp;refine hK.out _ _ ?_ fun hH7 => ?_
   ·exact ⟨hH0.1.alloc _ _,HA.step (hH0.1.alloc _ _)⟩
   have hp : wA.heap.size ≤ wA.heap.size := Nat.le_trans hH0.1.below.size (Nat.le_of_eq (by simp));have hP : Fr3 wA (wA.heap.size) (wA.drew.alloc (.cells #[I 0,I 0,I 0] 23)) := by refine ⟨hH0.1.alloc _ _,y02 (v := I 0) ?_,y02 (v := I 0) ?_,y02 (v := I 0) ?_,?_,?_,?_⟩ <;> go_simp
   clear hK K hH0;try simp only [zP]
   refine rdW 6 rfl fun K hK => ?_;simp only [zQ];go_simp
   (go_at_call 69; refine (y1q _ _ _ _ _ _ _ _).mono ?_; rintro e wc8 ⟨rfl,kc8⟩)
   try go_wp2_with fail
   refine hK.out _ _ ?_ fun hH8 => ?_
   ·exact ⟨hH7.1.trans kc8,HA.step (hH7.1.trans kc8)⟩
   replace hP := hP.step kc8;clear hK K hH7;try simp only [zP]
   refine rdW 7 rfl fun K hK => ?_;simp only [zQ];go_simp
   (go_at_call 97; refine (y1r _ _ _ _ _ _ _ _ _ _ _).mono ?_; rintro e wc9 ⟨rfl,kc9⟩)
   try go_wp2_with fail
   refine hK.out _ _ ?_ fun hH9 => ?_
   ·exact ⟨hH8.1.trans kc9,HA.step (hH8.1.trans kc9)⟩
   replace hP := hP.step kc9;clear hK K hH8;try simp only [zP]
   refine tkU 8 (h:=tkU 9 (h:=tkU 10 (h:=tkV 11 ?_)));try simp only [zP]
   have hP0 := hP;obtain ⟨_,cp0,cp1,cp2,fp0,fp1,fp2⟩ := hP0;refine rdW 13 rfl fun K hK => ?_;simp only [zQ];go_simp;refine hK.out _ _ ?_ fun hS1 => ?_
   ·exact ⟨y07 hH9.1 hp _ _ _,HA.step (y07 hH9.1 hp _ _ _)⟩
   clear hK K;try simp only [zP]
   refine tkU 14 (h:=tkV 15 ?_);try simp only [zP]
   refine wpAnyH_done (by kernel_rfl) ?_ _;go_wp2_with fail
   go_meet
   case rel =>
    obtain ⟨z0,z1,z2⟩ := y0b (v0 := I (ballT xb q0 q1 q2 (sub p0 xa) (sub p1 (hf ka xa ya)) (sub p2 (hf ka xa za)) (add p0 xa) (add p1 (hf ka xa ya)) (add p2 (hf ka xa za))).x) (v1 := I (ballT xb q0 q1 q2 (sub p0 xa) (sub p1 (hf ka xa ya)) (sub p2 (hf ka xa za)) (add p0 xa) (add p1 (hf ka xa ya)) (add p2 (hf ka xa za))).y) (v2 := I (ballT xb q0 q1 q2 (sub p0 xa) (sub p1 (hf ka xa ya)) (sub p2 (hf ka xa za)) (add p0 xa) (add p1 (hf ka xa ya)) (add p2 (hf ka xa za))).z) cp0 cp1 cp2;exact ⟨wA.heap.size,rfl,rfl,rfl,hS1.1,z0,z1,z2⟩
 case rest =>
  obtain ⟨p,rfl,rfl,rfl,kc,x0,x1,x2⟩ := hcut;clear HA;generalize hTT : (ballT xb q0 q1 q2 (sub p0 xa) (sub p1 (hf ka xa ya)) (sub p2 (hf ka xa za)) (add p0 xa) (add p1 (hf ka xa ya)) (add p2 (hf ka xa za))) = tt at x0 x1 x2 ⊢;have HTT : Aside ((ballT xb q0 q1 q2 (sub p0 xa) (sub p1 (hf ka xa ya)) (sub p2 (hf ka xa za)) (add p0 xa) (add p1 (hf ka xa ya)) (add p2 (hf ka xa za))) = tt) := hTT;clear hTT;go_wp2_with fail
  refine (y0o _ _ _ _ _ _ _).mono ?_; rintro e w1 ⟨rfl,k1⟩;have c0 := y00 k1 (y00 kc (RC'.out 0 (by omega)));have f0 := y01 k1 (y01 kc (RF'.out 0));have c1 := y00 k1 (y00 kc (RC'.out 1 (by omega)));have f1 := y01 k1 (y01 kc (RF'.out 1));have c2 := y00 k1 (y00 kc (RC'.out 2 (by omega)));have f2 := y01 k1 (y01 kc (RF'.out 2));have hk : Kept w w1 := (hkA.trans kc).trans k1;clear k1 x0 x1 x2;go_wp2
  obtain ⟨e0,e1,e2⟩ := y0b (v0 := I (sub 0 tt.x)) (v1 := I (sub 0 tt.y)) (v2 := I (sub 0 tt.z)) c0 c1 c2;exact bodyPost_ret (v := .tuple #[.agg #[I (sub 0 tt.x),I (sub 0 tt.y),I (sub 0 tt.z)],I tt.d,.bool tt.ok]) (by simp [results,Tryz.results58,go_sem,e0,e1,e2]) rfl ⟨by rw [HTT.out]; rfl,y07 hk (by omega) _ _ _⟩
theorem y9i (ka xa ya za p0 p1 p2 kb xb yb zb q0 q1 q2 : Int) (w : World) : Calls Tryz.prog 58 #[.agg #[I ka,I xa,I ya,I za],.agg #[I p0,I p1,I p2],.agg #[I kb,I xb,I yb,I zb],.agg #[I q0,I q1,I q2]] w fun e w' => e = .returned (.tuple #[.agg #[I ((touchT ka xa ya za p0 p1 p2 kb xb yb zb q0 q1 q2).x),I ((touchT ka xa ya za p0 p1 p2 kb xb yb zb q0 q1 q2).y),I ((touchT ka xa ya za p0 p1 p2 kb xb yb zb q0 q1 q2).z)],I ((touchT ka xa ya za p0 p1 p2 kb xb yb zb q0 q1 q2).d),.bool (touchT ka xa ya za p0 p1 p2 kb xb yb zb q0 q1 q2).ok]) ∧ Kept w w' := by
 by_cases h : ka = 1
 ·by_cases h' : kb = 1
  ·exact yhe ka xa ya za p0 p1 p2 kb xb yb zb q0 q1 q2 w h h'
  ·exact yh3 ka xa ya za p0 p1 p2 kb xb yb zb q0 q1 q2 w h h'
 ·by_cases h' : kb = 1
  ·exact yh4 ka xa ya za p0 p1 p2 kb xb yb zb q0 q1 q2 w h h'
  ·exact yij ka xa ya za p0 p1 p2 kb xb yb zb q0 q1 q2 w h h'
end Go.Proofs.YtbenlgandjjopaaGreatDoor
