/- . -/
import Derived.Test.YtbenlgandjjopaaGreatDoorN11
open List renaming getElem?_cons_succ → zqh,getElem?_cons_zero → zqi
open Go.Value renaming int → J
open Go.IntKind renaming i64 → U
open List renaming mem_singleton → zrc,mem_cons → zrd
namespace Go.Proofs.YtbenlgandjjopaaGreatDoor
set_option maxRecDepth 100000
set_option maxHeartbeats 4000000
open Go.ChangeShapes Go.WideShapes Go.ChangeAt Go.RowKit
set_option linter.unusedVariables false
set_option linter.unusedSimpArgs false
variable {w w' w1 wr : World} {g n i kx k b : Nat} {x y al dp z : Int} {B C : Nat → Bd} {v : Value} {ms : List Mt} {D : List Nat} {F : Nat → Nat → Value} {a : Option Addr}
theorem put33 {p q : Nat} (hne : p ≠ q) {a0 a1 a2 b0 b1 b2 : Value} (c0 : w.cell? (Y p 0) = some a0) (c1 : w.cell? (Y p 1) = some a1) (c2 : w.cell? (Y p 2) = some a2) (d0 : w.cell? (Y q 0) = some b0) (d1 : w.cell? (Y q 1) = some b1) (d2 : w.cell? (Y q 2) = some b2) (v0 v1 v2 u0 u1 u2 : Value) :
  ((((((w.setCell (Y p 0) v0).setCell (Y p 1) v1).setCell (Y p 2) v2).setCell (Y q 0) u0).setCell (Y q 1) u1).setCell (Y q 2) u2).cell? (Y p 0) = some v0 ∧ ((((((w.setCell (Y p 0) v0).setCell (Y p 1) v1).setCell (Y p 2) v2).setCell (Y q 0) u0).setCell (Y q 1) u1).setCell (Y q 2) u2).cell? (Y p 1) = some v1 ∧ ((((((w.setCell (Y p 0) v0).setCell (Y p 1) v1).setCell (Y p 2) v2).setCell (Y q 0) u0).setCell (Y q 1) u1).setCell (Y q 2) u2).cell? (Y p 2) = some v2 ∧ ((((((w.setCell (Y p 0) v0).setCell (Y p 1) v1).setCell (Y p 2) v2).setCell (Y q 0) u0).setCell (Y q 1) u1).setCell (Y q 2) u2).cell? (Y q 0) = some u0 ∧ ((((((w.setCell (Y p 0) v0).setCell (Y p 1) v1).setCell (Y p 2) v2).setCell (Y q 0) u0).setCell (Y q 1) u1).setCell (Y q 2) u2).cell? (Y q 1) = some u1 ∧ ((((((w.setCell (Y p 0) v0).setCell (Y p 1) v1).setCell (Y p 2) v2).setCell (Y q 0) u0).setCell (Y q 1) u1).setCell (Y q 2) u2).cell? (Y q 2) = some u2 := by
 have n1 : q ≠ p := fun e => hne e.symm;refine ⟨?_,?_,?_,?_,?_,?_⟩ <;> go_simp
theorem y93 (p0 p1 : Value) (x y al wx wy wz dp a b c j : Int) (w : World) :
  Calls Tryz.prog 125 #[.agg #[p0,p1,I x,I y,I al,I wx,I wy,I wz,I dp],.agg #[I a,I b,I c],I j] w fun e w' => e = .returned (.tuple #[.agg #[I (mul a (mul j x)),I (mul b (mul j x)),I (mul c (mul j x))],.agg #[I (mul a (mul j y)),I (mul b (mul j y)),I (mul c (mul j y))]]) ∧ Kept w w' := by
 go_enter Tryz.func125,Tryz.ntmps125
 go_upto_region 1 with fail
 have HA : Hid (∃ wA,wA = ((((w.alloc (.cells #[p0,p1,I x,I y,I al,I wx,I wy,I wz,I dp] 131)).alloc (.cells #[I a,I b,I c] 23)).alloc (.cells #[I 0,I 0,I 0] 23)).alloc (.cells #[I 0,I 0,I 0] 23)) ∧ Kept w wA ∧ (wA.cell? (Y w.heap.size 2) = some (I x) ∧ wA.cell? (Y w.heap.size 3) = some (I y) ∧ wA.cell? (Y (w.heap.size + 1) 0) = some (I a) ∧ wA.cell? (Y (w.heap.size + 1) 1) = some (I b) ∧ wA.cell? (Y (w.heap.size + 1) 2) = some (I c)) ∧ (wA.cell? (Y (w.heap.size + 1 + 1) 0) = some (I 0) ∧ wA.cell? (Y (w.heap.size + 1 + 1) 1) = some (I 0) ∧ wA.cell? (Y (w.heap.size + 1 + 1) 2) = some (I 0) ∧ wA.cell? (Y (w.heap.size + 1 + 1 + 1) 0) = some (I 0) ∧ wA.cell? (Y (w.heap.size + 1 + 1 + 1) 1) = some (I 0) ∧ wA.cell? (Y (w.heap.size + 1 + 1 + 1) 2) = some (I 0)) ∧ (∀ i,wA.frozen? (Y (w.heap.size + 1 + 1) i) = false) ∧ (∀ i,wA.frozen? (Y (w.heap.size + 1 + 1 + 1) i) = false)) := by
  refine ⟨_,rfl,(((((Kept.refl w).alloc _ _).alloc _ _).alloc _ _).alloc _ _),⟨?_,?_,?_,?_,?_⟩,⟨?_,?_,?_,?_,?_,?_⟩,?_,?_⟩
  all_goals (try intro i)
  all_goals go_simp
 obtain ⟨wA,hwA,hkA,hcs,hr,hf1,hf2⟩ := HA.out;simp only [← hwA];clear hwA HA;have HA : Hid (Kept w wA) := hkA;have HF : Hid ((wA.cell? (Y (w.heap.size + 1 + 1) 0) = some (I 0) ∧ wA.cell? (Y (w.heap.size + 1 + 1) 1) = some (I 0) ∧ wA.cell? (Y (w.heap.size + 1 + 1) 2) = some (I 0) ∧ wA.cell? (Y (w.heap.size + 1 + 1 + 1) 0) = some (I 0) ∧ wA.cell? (Y (w.heap.size + 1 + 1 + 1) 1) = some (I 0) ∧ wA.cell? (Y (w.heap.size + 1 + 1 + 1) 2) = some (I 0)) ∧ (∀ i,wA.frozen? (Y (w.heap.size + 1 + 1) i) = false) ∧ (∀ i,wA.frozen? (Y (w.heap.size + 1 + 1 + 1) i) = false)) := ⟨hr,hf1,hf2⟩
 have HN : Hid (w.heap.size ≤ w.heap.size + 1 + 1 ∧ w.heap.size ≤ w.heap.size + 1 + 1 + 1 ∧ w.heap.size + 1 + 1 ≠ w.heap.size + 1 + 1 + 1 ∧ w.heap.size ∉ [w.heap.size + 1 + 1,w.heap.size + 1 + 1 + 1] ∧ w.heap.size + 1 ∉ [w.heap.size + 1 + 1,w.heap.size + 1 + 1 + 1]) := by
  refine ⟨by omega,by omega,by omega,?_,?_⟩ <;> (simp only [zrd,List.not_mem_nil,or_false]; omega)
 clear hkA hr hf1 hf2;revert HN HF hcs;generalize w.heap.size + 1 + 1 + 1 = r2;generalize w.heap.size + 1 + 1 = r1;generalize w.heap.size + 1 = kw;generalize hkx : w.heap.size = kx;intro hcs HF HN;have HX : Hid (w.heap.size = kx) := hkx;clear hkx;have HK : Hid (∀ w',Only [r1,r2] wA w' → Only [r1,r2] wA w' ∧ w'.cell? (Y kx 2) = some (I x) ∧ w'.cell? (Y kx 3) = some (I y) ∧ w'.cell? (Y kw 0) = some (I a) ∧ w'.cell? (Y kw 1) = some (I b) ∧ w'.cell? (Y kw 2) = some (I c)) := fun w' o => ⟨o,y03 o hcs.1 HN.out.2.2.2.1,y03 o hcs.2.1 HN.out.2.2.2.1,y03 o hcs.2.2.1 HN.out.2.2.2.2,y03 o hcs.2.2.2.1 HN.out.2.2.2.2,y03 o hcs.2.2.2.2 HN.out.2.2.2.2⟩;clear hcs;refine wp_region_held_drew (S := (fun w' => Only [r1,r2] wA w' ∧ Zc w' kx 2 x ∧ Zc w' kx 3 y ∧ Zc w' kw 0 a ∧ Zc w' kw 1 b ∧ Zc w' kw 2 c)) (by kernel_rfl) ?_ (fun hJ1 => ?_)
 ·exact HK.out _ (Only.refl _ _).drew
 refine tkU 0 (h:=tkU 1 (h:=tkU 2 (h:=tkV 3 ?_)));try simp only [zP]
 refine tkU 6 (h:=tkU 7 (h:=tkU 8 (h:=tkV 9 ?_)));try simp only [zP]
 refine rdW 4 rfl fun K hK => ?_;simp only [zQ];go_simp
 (go_at_call 119; refine (y3d _ _ _).mono ?_; rintro e w1 ⟨rfl,k1⟩; have K1 : Hid (Kept wA w1) := (Kept.refl wA).drew.trans k1; clear k1)
 try go_wp2_with fail
 refine hK.out _ _ ?_ fun hJ2 => ?_
 ·exact HK.out _ (Only.of_kept K1.out)
 clear hK K hJ1;try simp only [zP]
 refine rdW 5 rfl fun K hK => ?_;simp only [zQ];go_simp
 (go_at_call 121; refine (y30 _ _ _ _ _).mono ?_; rintro e w2 ⟨rfl,k2⟩; have K2 : Hid (Kept wA w2) := K1.out.trans k2; clear k2)
 try go_wp2_with fail
 refine hK.out _ _ ?_ fun hJ3 => ?_
 ·exact HK.out _ (Only.of_kept K2.out)
 clear hK K hJ2;try simp only [zP]
 refine rdW 10 rfl fun K hK => ?_;simp only [zQ];go_simp
 (go_at_call 119; refine (y3d _ _ _).mono ?_; rintro e w3 ⟨rfl,k3⟩; have K3 : Hid (Kept wA w3) := K2.out.trans k3; clear k3)
 try go_wp2_with fail
 refine hK.out _ _ ?_ fun hJ4 => ?_
 ·exact HK.out _ (Only.of_kept K3.out)
 clear hK K hJ3;try simp only [zP]
 refine rdW 11 rfl fun K hK => ?_;simp only [zQ];go_simp
 (go_at_call 121; refine (y30 _ _ _ _ _).mono ?_; rintro e w4 ⟨rfl,k4⟩; have K4 : Hid (Kept wA w4) := K3.out.trans k4; clear k4)
 try go_wp2_with fail
 refine hK.out _ _ ?_ fun hJ5 => ?_
 ·exact HK.out _ (Only.of_kept K4.out)
 clear hK K hJ4;try simp only [zP]
 have c0 := y00 K4.out HF.out.1.1;have c1 := y00 K4.out HF.out.1.2.1;have c2 := y00 K4.out HF.out.1.2.2.1;have d0 := y00 K4.out HF.out.1.2.2.2.1;have d1 := y00 K4.out HF.out.1.2.2.2.2.1;have d2 := y00 K4.out HF.out.1.2.2.2.2.2;have f0 := y01 K4.out (HF.out.2.1 0);have f1 := y01 K4.out (HF.out.2.1 1);have f2 := y01 K4.out (HF.out.2.1 2);have g0 := y01 K4.out (HF.out.2.2 0);have g1 := y01 K4.out (HF.out.2.2 1);have g2 := y01 K4.out (HF.out.2.2 2);have hne := HN.out.2.2.1;have hne' : r2 ≠ r1 := fun e => hne e.symm;refine rdW 12 rfl fun K hK => ?_;simp only [zQ];go_simp;refine hK.out _ _ ?_ fun hJ6 => ?_
 ·exact HK.out _ ((((Only.of_kept K4.out).setCell (p := Y r1 0) (Or.inl (by simp)) _).setCell (p := Y r1 1) (Or.inl (by simp)) _).setCell (p := Y r1 2) (Or.inl (by simp)) _)
 clear hK K;try simp only [zP]
 refine rdW 13 rfl fun K hK => ?_;simp only [zQ];go_simp;refine hK.out _ _ ?_ fun hJ7 => ?_
 ·exact HK.out _ (((((((Only.of_kept K4.out).setCell (p := Y r1 0) (Or.inl (by simp)) _).setCell (p := Y r1 1) (Or.inl (by simp)) _).setCell (p := Y r1 2) (Or.inl (by simp)) _).setCell (p := Y r2 0) (Or.inl (by simp)) _).setCell (p := Y r2 1) (Or.inl (by simp)) _).setCell (p := Y r2 2) (Or.inl (by simp)) _)
 clear hK K;try simp only [zP]
 refine wpAnyH_done (by kernel_rfl) ?_ _;clear hJ7 hJ6;obtain ⟨e0,e1,e2,e3,e4,e5⟩ := put33 hne c0 c1 c2 d0 d1 d2 (I (mul a (mul j x))) (I (mul b (mul j x))) (I (mul c (mul j x))) (I (mul a (mul j y))) (I (mul b (mul j y))) (I (mul c (mul j y)))
 have hfin : Kept w ((((((w4.setCell (Y r1 0) (I (mul a (mul j x)))).setCell (Y r1 1) (I (mul b (mul j x)))).setCell (Y r1 2) (I (mul c (mul j x)))).setCell (Y r2 0) (I (mul a (mul j y)))).setCell (Y r2 1) (I (mul b (mul j y)))).setCell (Y r2 2) (I (mul c (mul j y)))) := by
  have hx := HX.out;have h1 := HN.out.1;have h2 := HN.out.2.1;have k := HA.out.trans K4.out;exact (((((k.setCell (p := Y r1 0) (by show w.heap.size ≤ r1; omega) _).setCell (p := Y r1 1) (by show w.heap.size ≤ r1; omega) _).setCell (p := Y r1 2) (by show w.heap.size ≤ r1; omega) _).setCell (p := Y r2 0) (by show w.heap.size ≤ r2; omega) _).setCell (p := Y r2 1) (by show w.heap.size ≤ r2; omega) _).setCell (p := Y r2 2) (by show w.heap.size ≤ r2; omega) _
 go_wp2_with fail
 exact bodyPost_ret (v := .tuple #[.agg #[I (mul a (mul j x)),I (mul b (mul j x)),I (mul c (mul j x))],.agg #[I (mul a (mul j y)),I (mul b (mul j y)),I (mul c (mul j y))]]) (by simp [results,Tryz.results125,go_sem,e0,e1,e2,e3,e4,e5]) rfl ⟨rfl,hfin⟩
def MtAt (w : World) (kx g i k : Nat) (x y al : Int) (v : V3) (dp : Int) : Prop := w.heap[kx]? = some (.cells #[.pointer (some ⟨g,i * 17,none⟩),.pointer (some ⟨g,k * 17,none⟩),J U x,J U y,J U al,J U v.x,J U v.y,J U v.z,J U dp] 131)
theorem MtAt.off {v : V3} (h : MtAt w kx g i k x y al v dp) (j : Nat) : w.cell? (Y kx j) = (#[.pointer (some (Y g (i * 17))),.pointer (some (Y g (k * 17))),I x,I y,I al,I v.x,I v.y,I v.z,I dp] : Array Value)[j]? := by
 unfold MtAt at h; simp [World.cell?,h]
theorem MtAt.only {v : V3} (h : MtAt w kx g i k x y al v dp) (o : Only D w w') (s : kx ∉ D) : MtAt w' kx g i k x y al v dp := (o.block kx (Array.getElem?_eq_some_iff.1 h).1 s).trans h
def VecAt (w : World) (b : Nat) (x y z : Int) : Prop := w.heap[b]? = some (.cells #[J U x,J U y,J U z] 23)
theorem VecAt.off (h : VecAt w b x y z) (j : Nat) : w.cell? (Y b j) = (#[I x,I y,I z] : Array Value)[j]? := by
 unfold VecAt at h; simp [World.cell?,h]
theorem VecAt.only (h : VecAt w b x y z) (o : Only D w w') (s : b ∉ D) : VecAt w' b x y z := (o.block b (Array.getElem?_eq_some_iff.1 h).1 s).trans h
theorem y40 (B : Nat → Bd) (i : Nat) (b : Bd) (j k : Nat) : bc (upd B i b j) k = if j = i then bc b k else bc (B j) k := by
 unfold upd; split <;> rfl
def RowF (w : World) (g n : Nat) (F : Nat → Nat → Value) : Prop := ∃ cur : Array Value,w.heap[g]? = some (.cells cur 45 (0,0)) ∧ ∀ j,j < n → ∀ k,k < 17 → cur[j * 17 + k]? = some (F j k)
theorem RowF.set (h : RowF w g n F) {k0 : Nat} (hi : i < n) (hk : k0 < 17) (v : Value) : RowF (w.setCell (Y g (i * 17 + k0)) v) g n (fun j k => if j = i ∧ k = k0 then v else F j k) := by
 obtain ⟨cur,hb,hc⟩ := h;refine ⟨cur.setIfInBounds (i * 17 + k0) v,?_,fun j hj k hk' => ?_⟩
 ·simp [World.setCell,Array.getElem?_modify,hb]
 ·have h0 := hc j hj k hk'
  have hl := (Array.getElem?_eq_some_iff.1 h0).1;rw [Array.getElem?_setIfInBounds];by_cases e : j = i ∧ k = k0
  ·obtain ⟨rfl,rfl⟩ := e
   simp [hl]
  ·have : ¬ i * 17 + k0 = j * 17 + k := fun q => e ⟨by omega,by omega⟩
   rw [if_neg this]; simp only [if_neg e]; exact h0
theorem RowF.congr {G : Nat → Nat → Value} (h : RowF w g n F) (e : ∀ j k,j < n → k < 17 → F j k = G j k) : RowF w g n G := by
 obtain ⟨cur,hb,hc⟩ := h;exact ⟨cur,hb,fun j hj k hk => by rw [← e j k hj hk]; exact hc j hj k hk⟩
theorem OwnB.putAt (h : OwnB w g n B) (hi : i < n) (x y z : Int) :
  OwnB (((w.setCell (Y g (i * 17 + 6)) (J U x)).setCell (Y g (i * 17 + 6 + 1)) (J U y)).setCell (Y g (i * 17 + 6 + 2)) (J U z)) g n (upd B i (atX (B i) x y z)) := by
 have h1 := ((RowF.set (F := fun j k => bc (B j) k) h hi (show 6 < 17 by omega) (J U x)).set hi (show 7 < 17 by omega) (J U y)).set hi (show 8 < 17 by omega) (J U z);refine RowF.congr h1 (fun j k hj hk => ?_);by_cases e : j = i
 ·subst e
  rw [y40,if_pos rfl]
  match k,hk with
  | 0,_ => simp [bc,atX]
  | 1,_ => simp [bc,atX]
  | 2,_ => simp [bc,atX]
  | 3,_ => simp [bc,atX]
  | 4,_ => simp [bc,atX]
  | 5,_ => simp [bc,atX]
  | 6,_ => simp [bc,atX]
  | 7,_ => simp [bc,atX]
  | 8,_ => simp [bc,atX]
  | 9,_ => simp [bc,atX]
  | 10,_ => simp [bc,atX]
  | 11,_ => simp [bc,atX]
  | 12,_ => simp [bc,atX]
  | 13,_ => simp [bc,atX]
  | 14,_ => simp [bc,atX]
  | 15,_ => simp [bc,atX]
  | 16,_ => simp [bc,atX]
  | k + 17,h => exact absurd h (by omega)
 ·rw [y40]; simp [e]
theorem OwnB.putSp (h : OwnB w g n B) (hi : i < n) (x y z : Int) :
  OwnB (((w.setCell (Y g (i * 17 + 9)) (J U x)).setCell (Y g (i * 17 + 9 + 1)) (J U y)).setCell (Y g (i * 17 + 9 + 2)) (J U z)) g n (upd B i (spX (B i) x y z)) := by
 have h1 := ((RowF.set (F := fun j k => bc (B j) k) h hi (show 9 < 17 by omega) (J U x)).set hi (show 10 < 17 by omega) (J U y)).set hi (show 11 < 17 by omega) (J U z);refine RowF.congr h1 (fun j k hj hk => ?_);by_cases e : j = i
 ·subst e
  rw [y40,if_pos rfl]
  match k,hk with
  | 0,_ => simp [bc,spX]
  | 1,_ => simp [bc,spX]
  | 2,_ => simp [bc,spX]
  | 3,_ => simp [bc,spX]
  | 4,_ => simp [bc,spX]
  | 5,_ => simp [bc,spX]
  | 6,_ => simp [bc,spX]
  | 7,_ => simp [bc,spX]
  | 8,_ => simp [bc,spX]
  | 9,_ => simp [bc,spX]
  | 10,_ => simp [bc,spX]
  | 11,_ => simp [bc,spX]
  | 12,_ => simp [bc,spX]
  | 13,_ => simp [bc,spX]
  | 14,_ => simp [bc,spX]
  | 15,_ => simp [bc,spX]
  | 16,_ => simp [bc,spX]
  | k + 17,h => exact absurd h (by omega)
 ·rw [y40]; simp [e]
theorem quo5 (z : Int) (h : -70368744177664 ≤ z) (h' : z ≤ 70368744177664) : IntKind.i64.wrap (z.tdiv 5) = z.tdiv 5 := by
 have hb : -70368744177664 ≤ z.tdiv 5 ∧ z.tdiv 5 ≤ 70368744177664 := by
  rcases Int.le_total 0 z with q | q
  ·rw [Int.tdiv_eq_ediv_of_nonneg q]; omega
  ·obtain ⟨y,rfl⟩ : ∃ y,z = -y := ⟨-z,by omega⟩
   rw [Int.neg_tdiv,Int.tdiv_eq_ediv_of_nonneg (by omega)]; omega
 rw [IntKind.wrap_i64]; omega
theorem y25 : bound 65536000 = 65536000 := by decide
theorem yif (g n i k : Nat) (x y al : Int) (v : V3) (dp : Int) (B : Nat → Bd) (w : World) (h : OwnB w g n B) (hi : i < n) (hk : k < n) :
  Calls Tryz.prog 77 #[.agg #[.pointer (some (Y g (i * 17))),.pointer (some (Y g (k * 17))),I x,I y,I al,I v.x,I v.y,I v.z,I dp]] w fun e w' => e = .returned (.tuple #[]) ∧ OwnB w' g n (partX B i k x y al v dp) ∧ Only [g] w w' ∧ (∀ s,SizeAt w g s → SizeAt w' g s) := by
 have HO : Hid (OwnB w g n B ∧ i < n ∧ k < n) := ⟨h,hi,hk⟩;clear h hi hk;go_enter Tryz.func77,Tryz.ntmps77
 go_upto_region 1 with fail
 have H0 : Hid (Only [] w (w.alloc (.cells #[.pointer (some (Y g (i * 17))),.pointer (some (Y g (k * 17))),I x,I y,I al,I v.x,I v.y,I v.z,I dp] 131)) ∧ MtAt (w.alloc (.cells #[.pointer (some (Y g (i * 17))),.pointer (some (Y g (k * 17))),I x,I y,I al,I v.x,I v.y,I v.z,I dp] 131)) w.heap.size g i k x y al v dp) := ⟨(Only.refl [] w).alloc _,(MapKept.heap_alloc w _).1⟩;revert H0;generalize hkx : w.heap.size = kx;generalize World.alloc w _ = w1;intro H0;have HX : Hid (w.heap.size = kx) := hkx;clear hkx;have HK : Hid (∀ w',Kept w1 w' → Kept w1 w' ∧ w'.cell? (Y kx 4) = some (I al) ∧ w'.cell? (Y kx 8) = some (I dp)) := fun w' o => ⟨o,y00 o (H0.out.2.off 4),y00 o (H0.out.2.off 8)⟩;refine wp_region_held_drew (S := (fun w' => Kept w1 w' ∧ Zc w' kx 4 al ∧ Zc w' kx 8 dp)) (by kernel_rfl) ?_ (fun hJ1 => ?_)
 ·exact HK.out _ kd
 refine tkU 0 (h:=tkU 1 (h:=tkU 4 (h:=tkV 5 ?_)));try simp only [zP]
 refine rdW 2 rfl fun K hK => ?_;simp only [zQ];go_simp
 (go_at_call 124; refine (y6a _ _ _).mono ?_; rintro e w2 ⟨rfl,k2⟩)
 try go_wp2_with fail
 refine hK.out _ _ ?_ fun hJ2 => ?_
 ·exact HK.out _ ((Kept.refl w1).drew.trans k2)
 clear hK K hJ1;try simp only [zP]
 have hq5 := quo5 (sub dp 655) (y1a _) (y19 _);refine tkW (v := I ((sub dp 655).tdiv 5)) 3 rfl ?_ (by intro w'' hSw; (try dsimp only at hSw); simp only [zQ]; (go_simp <;> rfl));try simp only [zP]
 refine rdW 6 rfl fun K hK => ?_;simp only [zQ];go_simp
 (go_at_call 118; refine (y4e _ _ _).mono ?_; rintro e w3 ⟨rfl,k3⟩)
 try go_wp2_with fail
 refine hK.out _ _ ?_ fun hJ3 => ?_
 ·exact HK.out _ (((Kept.refl w1).drew.trans k2).trans k3)
 clear hK K hJ2;try simp only [zP]
 refine tkV 7 ?_;try simp only [zP]
 refine wpAnyH_done (by kernel_rfl) ?_ _;have K3 : Hid (Kept w1 w3) := ((Kept.refl w1).drew.trans k2).trans k3;clear hJ3 HK k2 k3 hq5;have HD : Hid (div ((sub dp 655).tdiv 5) al = deepX dp al) := rfl;generalize hdd : div ((sub dp 655).tdiv 5) al = dd at HD ⊢;clear hdd;have q0 := y00 K3.out (H0.out.2.off 0); have q1 := y00 K3.out (H0.out.2.off 1); have q2 := y00 K3.out (H0.out.2.off 2); have q3 := y00 K3.out (H0.out.2.off 3); have q4 := y00 K3.out (H0.out.2.off 4); have q5 := y00 K3.out (H0.out.2.off 5); have q6 := y00 K3.out (H0.out.2.off 6); have q7 := y00 K3.out (H0.out.2.off 7); have q8 := y00 K3.out (H0.out.2.off 8);go_wp2_with fail
 refine (y93 _ _ _ _ _ _ _ _ _ _ _ _ _ _).mono ?_;rintro e w4 ⟨rfl,k4⟩;have K4 : Hid (Kept w1 w4) := K3.out.trans k4;clear k4 q0 q1 q2 q3 q4 q5 q6 q7 q8 K3;go_upto_region 3 with fail
 have H5 : Hid (Only [] w1 ((w4.alloc (.cells #[I (mul v.x (mul dd x)),I (mul v.y (mul dd x)),I (mul v.z (mul dd x))] 23)).alloc (.cells #[I (mul v.x (mul dd y)),I (mul v.y (mul dd y)),I (mul v.z (mul dd y))] 23)) ∧ VecAt ((w4.alloc (.cells #[I (mul v.x (mul dd x)),I (mul v.y (mul dd x)),I (mul v.z (mul dd x))] 23)).alloc (.cells #[I (mul v.x (mul dd y)),I (mul v.y (mul dd y)),I (mul v.z (mul dd y))] 23)) w4.heap.size (mul v.x (mul dd x)) (mul v.y (mul dd x)) (mul v.z (mul dd x)) ∧ VecAt ((w4.alloc (.cells #[I (mul v.x (mul dd x)),I (mul v.y (mul dd x)),I (mul v.z (mul dd x))] 23)).alloc (.cells #[I (mul v.x (mul dd y)),I (mul v.y (mul dd y)),I (mul v.z (mul dd y))] 23)) (w4.heap.size + 1) (mul v.x (mul dd y)) (mul v.y (mul dd y)) (mul v.z (mul dd y)) ∧ w1.heap.size ≤ w4.heap.size ∧ w1.heap.size ≤ w4.heap.size + 1) := by
  have h1 : Only [] w1 w4 := Only.of_kept K4.out;have hs : (w4.alloc (.cells #[I (mul v.x (mul dd x)),I (mul v.y (mul dd x)),I (mul v.z (mul dd x))] 23)).heap.size = w4.heap.size + 1 := by simp
  have hb := (MapKept.heap_alloc (w4.alloc (.cells #[I (mul v.x (mul dd x)),I (mul v.y (mul dd x)),I (mul v.z (mul dd x))] 23)) (.cells #[I (mul v.x (mul dd y)),I (mul v.y (mul dd y)),I (mul v.z (mul dd y))] 23)).1;rw [hs] at hb;exact ⟨(h1.alloc _).alloc _,VecAt.only (MapKept.heap_alloc w4 _).1 ((Only.refl [] _).alloc _) (by simp),hb,h1.size,Nat.le_trans h1.size (Nat.le_succ _)⟩
 clear K4;revert H5;generalize w4.heap.size + 1 = rb;generalize w4.heap.size = ra;generalize World.alloc (World.alloc w4 _) _ = w5;intro H5
 have HB5 : Hid (OwnB w5 g n B ∧ MtAt w5 kx g i k x y al v dp ∧ g ≠ kx ∧ g ≠ ra ∧ g ≠ rb) := by
  have hg := HO.out.1.lt;have hx := HX.out;have h1 := H0.out.1.size;have h2 := H5.out.2.2.2;exact ⟨HO.out.1.only (H0.out.1.trans H5.out.1) (by simp),H0.out.2.only H5.out.1 (by simp),by omega,by omega,by omega⟩
 have HNE : Hid (ra ≠ g ∧ rb ≠ g ∧ VecAt w5 rb (mul v.x (mul dd y)) (mul v.y (mul dd y)) (mul v.z (mul dd y))) := ⟨fun e => HB5.out.2.2.2.1 e.symm,fun e => HB5.out.2.2.2.2 e.symm,H5.out.2.2.1⟩;have HB6 : Hid (OwnB w5 g n B ∧ MtAt w5 kx g i k x y al v dp ∧ kx ≠ g ∧ VecAt w5 ra (mul v.x (mul dd x)) (mul v.y (mul dd x)) (mul v.z (mul dd x))) := ⟨HB5.out.1,HB5.out.2.1,fun e => HB5.out.2.2.1 e.symm,H5.out.2.1⟩;obtain ⟨bi,hbi⟩ : ∃ bi,bi = B i := ⟨_,rfl⟩;have HBI : Hid (bi = B i) := hbi;clear hbi
 have HK : Hid (∀ w',Only [g] w5 w' → Only [g] w5 w' ∧ w'.cell? (Y kx 0) = some (.pointer (some (Y g (i * 17)))) ∧ w'.cell? (Y ra 0) = some (I (mul v.x (mul dd x))) ∧ w'.cell? (Y ra 1) = some (I (mul v.y (mul dd x))) ∧ w'.cell? (Y ra 2) = some (I (mul v.z (mul dd x)))) := fun w' o =>
  ⟨o,y03 o (HB6.out.2.1.off 0) (by simp only [zrc]; exact HB6.out.2.2.1),y03 o (HB6.out.2.2.2.off 0) (by simp only [zrc]; exact HNE.out.1),y03 o (HB6.out.2.2.2.off 1) (by simp only [zrc]; exact HNE.out.1),y03 o (HB6.out.2.2.2.off 2) (by simp only [zrc]; exact HNE.out.1)⟩
 have c6 := HB6.out.1.cell HO.out.2.1 (show 6 < 17 by omega); have c7 := HB6.out.1.cell HO.out.2.1 (show 7 < 17 by omega); have c8 := HB6.out.1.cell HO.out.2.1 (show 8 < 17 by omega);rw [← HBI.out] at c6 c7 c8;simp only [bc] at c6 c7 c8;refine wp_region_held_drew (S := (fun w' => Only [g] w5 w' ∧ w'.cell? (Y kx 0) = some (.pointer (some (Y g (i * 17)))) ∧ Zc w' ra 0 (mul v.x (mul dd x)) ∧ Zc w' ra 1 (mul v.y (mul dd x)) ∧ Zc w' ra 2 (mul v.z (mul dd x)))) (by kernel_rfl) ?_ (fun hJ1 => ?_)
 ·exact HK.out _ (Only.refl _ _).drew
 refine tkU 0 (h:=tkU 1 (h:=tkU 2 (h:=tkV 3 ?_)));try simp only [zP]
 refine tkU 4 (h:=tkU 5 (h:=tkV 7 ?_));try simp only [zP]
 refine rdW 6 rfl fun K hK => ?_;simp only [zQ];go_simp;skip;try go_wp2_with fail
 refine hK.out _ _ ?_ fun hJ2 => ?_
 ·exact HK.out _ (Only.refl _ _).drew
 clear hK K hJ1;try simp only [zP]
 refine rdW 8 rfl fun K hK => ?_;simp only [zQ];go_simp
 (go_at_call 96; refine (y0o _ _ _ _ _ _ _).mono ?_; rintro e w6 ⟨rfl,k6⟩)
 try go_wp2_with fail
 refine hK.out _ _ ?_ fun hJ3 => ?_
 ·exact HK.out _ (Only.of_kept ((Kept.refl w5).drew.trans k6))
 clear hK K hJ2;try simp only [zP]
 refine rdW 9 rfl fun K hK => ?_;simp only [zQ];go_simp
 (go_at_call 62; refine (y28 _ _ _ _ _ (by decide)).mono ?_; rintro e w7 ⟨rfl,k7⟩)
 try go_wp2_with fail
 refine hK.out _ _ ?_ fun hJ4 => ?_
 ·exact HK.out _ (Only.of_kept (((Kept.refl w5).drew.trans k6).trans k7))
 clear hK K hJ3;try simp only [zP]
 simp only [y25];have K7 : Hid (Kept w5 w7) := ((Kept.refl w5).drew.trans k6).trans k7;have e6 := y00 K7.out c6; have e7 := y00 K7.out c7; have e8 := y00 K7.out c8;have f6 := y01 K7.out (HB6.out.1.free (i * 17 + 6)); have f7 := y01 K7.out (HB6.out.1.free (i * 17 + 7)); have f8 := y01 K7.out (HB6.out.1.free (i * 17 + 8));clear k6 k7 c6 c7 c8;refine tkU 10 (h:=tkV 11 ?_);try simp only [zP]
 refine rdW 12 rfl fun K hK => ?_;simp only [zQ];go_simp;refine hK.out _ _ ?_ fun hJ5 => ?_
 ·exact HK.out _ ((((Only.of_kept K7.out).setCell (p := Y g (i * 17 + 6)) (Or.inl (by simp)) _).setCell (p := Y g (i * 17 + 7)) (Or.inl (by simp)) _).setCell (p := Y g (i * 17 + 8)) (Or.inl (by simp)) _)
 clear hK K;try simp only [zP]
 refine wpAnyH_done (by kernel_rfl) ?_ _
 have HB8 : Hid (OwnB (((w7.setCell (Y g (i * 17 + 6)) (I (cl 65536000 (sub bi.ax (mul v.x (mul dd x)))))).setCell (Y g (i * 17 + 7)) (I (cl 65536000 (sub bi.ay (mul v.y (mul dd x)))))).setCell (Y g (i * 17 + 8)) (I (cl 65536000 (sub bi.az (mul v.z (mul dd x)))))) g n (upd (B) i (backX (B i) v (mul dd x))) ∧ Only [g] w5 (((w7.setCell (Y g (i * 17 + 6)) (I (cl 65536000 (sub bi.ax (mul v.x (mul dd x)))))).setCell (Y g (i * 17 + 7)) (I (cl 65536000 (sub bi.ay (mul v.y (mul dd x)))))).setCell (Y g (i * 17 + 8)) (I (cl 65536000 (sub bi.az (mul v.z (mul dd x)))))) ∧ (∀ s,SizeAt w5 g s → SizeAt (((w7.setCell (Y g (i * 17 + 6)) (I (cl 65536000 (sub bi.ax (mul v.x (mul dd x)))))).setCell (Y g (i * 17 + 7)) (I (cl 65536000 (sub bi.ay (mul v.y (mul dd x)))))).setCell (Y g (i * 17 + 8)) (I (cl 65536000 (sub bi.az (mul v.z (mul dd x)))))) g s)) := by
  refine ⟨?_,(((Only.of_kept K7.out).setCell (p := Y g (i * 17 + 6)) (Or.inl (by simp)) _).setCell (p := Y g (i * 17 + 7)) (Or.inl (by simp)) _).setCell (p := Y g (i * 17 + 8)) (Or.inl (by simp)) _,fun s hs => (((hs.only (Only.of_kept (D := []) K7.out) (by simp)).put _ _ _).put _ _ _).put _ _ _⟩;have h1 := (HB6.out.1.only (Only.of_kept (D := []) K7.out) (by simp)).putAt HO.out.2.1 (cl 65536000 (sub bi.ax (mul v.x (mul dd x)))) (cl 65536000 (sub bi.ay (mul v.y (mul dd x)))) (cl 65536000 (sub bi.az (mul v.z (mul dd x))));rw [HBI.out] at h1 ⊢;exact h1
 clear hJ5 HK e6 e7 e8 f6 f7 f8 K7;revert HB8;generalize World.setCell (World.setCell (World.setCell w7 _ _) _ _) _ _ = w8;intro HB8;obtain ⟨B1,hB1⟩ : ∃ B1,B1 = upd B i (backX (B i) v (mul dd x)) := ⟨_,rfl⟩;rw [← hB1] at HB8;have HB1 : Hid (B1 = upd B i (backX (B i) v (mul dd x))) := hB1;clear hB1;have HC8 : Hid (OwnB w8 g n B1 ∧ MtAt w8 kx g i k x y al v dp ∧ kx ≠ g ∧ VecAt w8 rb (mul v.x (mul dd y)) (mul v.y (mul dd y)) (mul v.z (mul dd y))) := ⟨HB8.out.1,HB6.out.2.1.only HB8.out.2.1 (by simp only [zrc]; exact HB6.out.2.2.1),HB6.out.2.2.1,HNE.out.2.2.only HB8.out.2.1 (by simp only [zrc]; exact HNE.out.2.1)⟩;go_upto_region 4 with fail
 obtain ⟨bk,hbk⟩ : ∃ bk,bk = B1 k := ⟨_,rfl⟩;have HBK : Hid (bk = B1 k) := hbk;clear hbk
 have HK : Hid (∀ w',Only [g] w8 w' → Only [g] w8 w' ∧ w'.cell? (Y kx 1) = some (.pointer (some (Y g (k * 17)))) ∧ w'.cell? (Y rb 0) = some (I (mul v.x (mul dd y))) ∧ w'.cell? (Y rb 1) = some (I (mul v.y (mul dd y))) ∧ w'.cell? (Y rb 2) = some (I (mul v.z (mul dd y)))) := fun w' o =>
  ⟨o,y03 o (HC8.out.2.1.off 1) (by simp only [zrc]; exact HC8.out.2.2.1),y03 o (HC8.out.2.2.2.off 0) (by simp only [zrc]; exact HNE.out.2.1),y03 o (HC8.out.2.2.2.off 1) (by simp only [zrc]; exact HNE.out.2.1),y03 o (HC8.out.2.2.2.off 2) (by simp only [zrc]; exact HNE.out.2.1)⟩
 have c6 := HC8.out.1.cell HO.out.2.2 (show 6 < 17 by omega); have c7 := HC8.out.1.cell HO.out.2.2 (show 7 < 17 by omega); have c8 := HC8.out.1.cell HO.out.2.2 (show 8 < 17 by omega);rw [← HBK.out] at c6 c7 c8;simp only [bc] at c6 c7 c8;refine wp_region_held_drew (S := (fun w' => Only [g] w8 w' ∧ w'.cell? (Y kx 1) = some (.pointer (some (Y g (k * 17)))) ∧ Zc w' rb 0 (mul v.x (mul dd y)) ∧ Zc w' rb 1 (mul v.y (mul dd y)) ∧ Zc w' rb 2 (mul v.z (mul dd y)))) (by kernel_rfl) ?_ (fun hJ1 => ?_)
 ·exact HK.out _ (Only.refl _ _).drew
 refine tkU 0 (h:=tkU 1 (h:=tkU 2 (h:=tkV 3 ?_)));try simp only [zP]
 refine tkU 4 (h:=tkU 5 (h:=tkV 7 ?_));try simp only [zP]
 refine rdW 6 rfl fun K hK => ?_;simp only [zQ];go_simp;skip;try go_wp2_with fail
 refine hK.out _ _ ?_ fun hJ2 => ?_
 ·exact HK.out _ (Only.refl _ _).drew
 clear hK K hJ1;try simp only [zP]
 refine rdW 8 rfl fun K hK => ?_;simp only [zQ];go_simp
 (go_at_call 73; refine (y1y _ _ _ _ _ _ _).mono ?_; rintro e w9 ⟨rfl,k6⟩)
 try go_wp2_with fail
 refine hK.out _ _ ?_ fun hJ3 => ?_
 ·exact HK.out _ (Only.of_kept ((Kept.refl w8).drew.trans k6))
 clear hK K hJ2;try simp only [zP]
 refine rdW 9 rfl fun K hK => ?_;simp only [zQ];go_simp
 (go_at_call 62; refine (y28 _ _ _ _ _ (by decide)).mono ?_; rintro e w10 ⟨rfl,k7⟩)
 try go_wp2_with fail
 refine hK.out _ _ ?_ fun hJ4 => ?_
 ·exact HK.out _ (Only.of_kept (((Kept.refl w8).drew.trans k6).trans k7))
 clear hK K hJ3;try simp only [zP]
 simp only [y25];have K7 : Hid (Kept w8 w10) := ((Kept.refl w8).drew.trans k6).trans k7;have e6 := y00 K7.out c6; have e7 := y00 K7.out c7; have e8 := y00 K7.out c8;have f6 := y01 K7.out (HC8.out.1.free (k * 17 + 6)); have f7 := y01 K7.out (HC8.out.1.free (k * 17 + 7)); have f8 := y01 K7.out (HC8.out.1.free (k * 17 + 8));clear k6 k7 c6 c7 c8;refine tkU 10 (h:=tkV 11 ?_);try simp only [zP]
 refine rdW 12 rfl fun K hK => ?_;simp only [zQ];go_simp;refine hK.out _ _ ?_ fun hJ5 => ?_
 ·exact HK.out _ ((((Only.of_kept K7.out).setCell (p := Y g (k * 17 + 6)) (Or.inl (by simp)) _).setCell (p := Y g (k * 17 + 7)) (Or.inl (by simp)) _).setCell (p := Y g (k * 17 + 8)) (Or.inl (by simp)) _)
 clear hK K;try simp only [zP]
 refine wpAnyH_done (by kernel_rfl) ?_ _
 have HB9 : Hid (OwnB (((w10.setCell (Y g (k * 17 + 6)) (I (cl 65536000 (add bk.ax (mul v.x (mul dd y)))))).setCell (Y g (k * 17 + 7)) (I (cl 65536000 (add bk.ay (mul v.y (mul dd y)))))).setCell (Y g (k * 17 + 8)) (I (cl 65536000 (add bk.az (mul v.z (mul dd y)))))) g n (upd (B1) k (forthX (B1 k) v (mul dd y))) ∧ Only [g] w8 (((w10.setCell (Y g (k * 17 + 6)) (I (cl 65536000 (add bk.ax (mul v.x (mul dd y)))))).setCell (Y g (k * 17 + 7)) (I (cl 65536000 (add bk.ay (mul v.y (mul dd y)))))).setCell (Y g (k * 17 + 8)) (I (cl 65536000 (add bk.az (mul v.z (mul dd y)))))) ∧ (∀ s,SizeAt w8 g s → SizeAt (((w10.setCell (Y g (k * 17 + 6)) (I (cl 65536000 (add bk.ax (mul v.x (mul dd y)))))).setCell (Y g (k * 17 + 7)) (I (cl 65536000 (add bk.ay (mul v.y (mul dd y)))))).setCell (Y g (k * 17 + 8)) (I (cl 65536000 (add bk.az (mul v.z (mul dd y)))))) g s)) := by
  refine ⟨?_,(((Only.of_kept K7.out).setCell (p := Y g (k * 17 + 6)) (Or.inl (by simp)) _).setCell (p := Y g (k * 17 + 7)) (Or.inl (by simp)) _).setCell (p := Y g (k * 17 + 8)) (Or.inl (by simp)) _,fun s hs => (((hs.only (Only.of_kept (D := []) K7.out) (by simp)).put _ _ _).put _ _ _).put _ _ _⟩;have h1 := (HC8.out.1.only (Only.of_kept (D := []) K7.out) (by simp)).putAt HO.out.2.2 (cl 65536000 (add bk.ax (mul v.x (mul dd y)))) (cl 65536000 (add bk.ay (mul v.y (mul dd y)))) (cl 65536000 (add bk.az (mul v.z (mul dd y))));rw [HBK.out] at h1 ⊢;exact h1
 clear hJ5 HK e6 e7 e8 f6 f7 f8 K7;go_wp2_with fail
 refine bodyPost_end (results_none rfl _ _ _) rfl ?_;refine ⟨rfl,?_,?_,fun s hs => HB9.out.2.2 s (HB8.out.2.2 s ((hs.only H0.out.1 (by simp)).only H5.out.1 (by simp)))⟩
 ·have e1 : partX B i k x y al v dp = upd B1 k (forthX (B1 k) v (mul dd y)) := by rw [HB1.out,HD.out]; rfl
  rw [e1]; exact HB9.out.1
 ·exact ((((Only.refl [g] w).trans (H0.out.1.mono (by simp))).trans (H5.out.1.mono (by simp))).trans HB8.out.2.1).trans HB9.out.2.1
theorem yjj (g : Nat) : ∀ (ms : List Mt) (j q : Nat) (hj : j < ms.length),q < 9 → (ms.flatMap (mtL g))[j * 9 + q]? = (mtL g ms[j])[q]?
 | [],j,q,hj,_ => by simp at hj
 | t :: ms,0,q,hj,hq => by
  rw [List.flatMap_cons,List.getElem?_append_left (by simp [mtL]; omega)];simp
 | t :: ms,j + 1,q,hj,hq => by
  have hj' : j < ms.length := by simpa using hj
  rw [List.flatMap_cons,List.getElem?_append_right (by simp [mtL]; omega)];have : (j + 1) * 9 + q - (mtL g t).length = j * 9 + q := by simp [mtL]; omega
  rw [this,yjj g ms j q hj' hq];simp
theorem SlMt.shape (h : SlMt w v g ms) : ∃ a c,v = .slice a ms.length c ∧ ∀ j (hj : j < ms.length),∃ b,a = some (Y b 0) ∧ b ∈ ownM v ∧ ∀ q,q < 9 → w.cell? (Y b (j * 9 + q)) = (mtL g ms[j])[q]? := by
 obtain ⟨hl,⟨rfl,hn⟩ | ⟨b,cap,cur,rfl,hb,hh,h1,h2,h3,h4⟩⟩ := h
 ·exact ⟨none,0,by rw [hn],fun j hj => by omega⟩
 ·refine ⟨_,cap,rfl,fun j hj => ⟨b,rfl,by simp [ownM,Value.ownBlock],fun q hq => ?_⟩⟩
  have hf := yjj g ms j q hj hq;rw [← h4,List.getElem?_take_of_lt (by omega),Array.getElem?_toList] at hf;simp [World.cell?,hh,hf]
def applyM (B : Nat → Bd) (t : Mt) : Nat → Bd := if 655 < t.deep then partX B t.i t.k t.x t.y t.all t.way t.deep else B
theorem y7b (h1 : ∀ i,(B i).id = (C i).id) (h2 : ∀ i,(B i).ms = (C i).ms) (t : Tc) : meetX1 n B t = meetX1 n C t := by
 unfold meetX1;rw [y3v h1 n,y3v h1 n];simp only [h2]
theorem yiu (n : Nat) (P : Nat → Bd) (t : Tc) : (meetX1 n P t).foldl applyM P = stepX n P t := by
 unfold meetX1 stepX
 cases findX P t.a n with
 | none => rfl
 | some i =>
  cases findX P t.b n with
  | none => rfl
  | some k =>
   simp only;by_cases e : i = k
   ·simp [e]
   ·by_cases ha : 0 < add (lightX (P i).ms) (lightX (P k).ms)
    ·by_cases hd : t.deep ≤ 655
     ·have hd' : ¬ 655 < t.deep := by omega
      simp [e,ha,hd,hd',applyM]
     ·have hd' : 655 < t.deep := by omega
      simp [e,ha,hd,hd',applyM]
    ·simp [e,ha]
theorem y8g (n : Nat) (B : Nat → Bd) (T : Nat → Tc) : ∀ m,(meetsX n B T m).foldl applyM B = placesX n B T m
 | 0 => rfl
 | m + 1 => by
  simp only [meetsX,placesX,List.foldl_append,y8g n B T m];rw [y7b (fun i => ((y1z n B T m i).1).symm) (fun i => ((y1z n B T m i).2).symm) (T m)];exact yiu n _ (T m)
def SlArg (a : Option Addr) (n c : Nat) : Prop := a = none → n = 0 ∧ c = 0
def OwnPost (n : Nat) (C : Nat → Bd) (w : World) (e : Ending) (w' : World) : Prop := ∃ a g c,e = .returned (.slice a n c) ∧ OwnS w' a g n C ∧ Only [] w w' ∧ w.heap.size ≤ g ∧ SlArg a n c
def OwnR (n : Nat) (C : Nat → Bd) (w : World) (e : Ending) (w' : World) : Prop := ∃ a g c,e = .returned (.slice a n c) ∧ OwnS w' a g n C ∧ Only [] w w' ∧ w.heap.size ≤ g ∧ SlArg a n c ∧ Room w' a n c ∧ Tied a g
structure PW (w w1 : World) (a : Option Addr) (g n : Nat) (C : Nat → Bd) (v : Value) (ms : List Mt) (wr : World) : Prop where
 own : OwnS wr a g n C
 sl : SlMt wr v g ms
 only : Only [] w wr
 new : w.heap.size ≤ g
 apart : n ≠ 0 → ∀ b ∈ ownM v,b ≠ g
theorem PW.keep (h : PW w w1 a g n C v ms wr) (o : Only [] wr w') : PW w w1 a g n C v ms w' :=
 ⟨h.own.only o (by simp),h.sl.only o (by simp),h.only.trans o,h.new,h.apart⟩
theorem PW.turn {D : Nat → Bd} (h : PW w w1 a g n C v ms wr) (h0 : n ≠ 0) (ha : a = some (Y g 0)) (hO : OwnB w' g n D) (o : Only [g] wr w') : PW w w1 a g n D v ms w' :=
 ⟨Or.inr ⟨ha,hO⟩,h.sl.only o (fun b hb => by simp only [zrc]; exact h.apart h0 b hb),h.only.then o (fun b hb => by simp only [zrc] at hb; subst hb; exact Or.inr h.new),h.new,h.apart⟩
theorem y5u (a b : Option Addr) (n c m d : Nat) (B : Nat → Bd) (T : Nat → Tc) (w : World) (hn : n ≤ 60) (hm : m ≤ 3600) (h : BodiesAt w a n B) (hs : SlArg a n c) (ht : TouchesAt w b m T) (hal : Alone n B) (hid : ∀ j,j < n → In64S (B j).id) :
  Calls Tryz.prog 49 #[.slice a n c,.slice b m d] w (OwnR n (placesX n B T m) w) := by
 have HB : Hid (BodiesAt w a n B ∧ SlArg a n c ∧ TouchesAt w b m T ∧ Alone n B ∧ (∀ j,j < n → In64S (B j).id) ∧ n ≤ 60 ∧ m ≤ 3600) := ⟨h,hs,ht,hal,hid,hn,hm⟩;clear h hs ht hal hid hn hm;go_enter Tryz.func49,Tryz.ntmps49
 go_wp2_with fail
 refine (y72 a n c B w (by have := HB.out.2.2.2.2.2.1; omega) HB.out.1 HB.out.2.1).mono ?_;rintro e w1 ⟨a1,g,c1,rfl,hO,o1,hg,hsl0,hrm,htd⟩;have HR1 : Hid (Room w1 a1 n c1) := hrm;have HTD : Hid (Tied a1 g) := htd;clear hrm htd;have HSL0 : Hid (SlArg a1 n c1) := hsl0;clear hsl0;have H1 : Hid (OwnS w1 a1 g n B ∧ Only [] w w1 ∧ w.heap.size ≤ g) := ⟨hO,o1,hg⟩;clear hO o1 hg;go_wp2_with fail
 refine (y55 a1 b g n c1 m d B T w1 HB.out.2.2.2.2.2.1 HB.out.2.2.2.2.2.2 H1.out.1 (HB.out.2.2.1.only H1.out.2.1) HB.out.2.2.2.1 HB.out.2.2.2.2.1).mono ?_;rintro e w2 ⟨v,rfl,hsl,o2,hv⟩;have HF : Hid ((meetsX n B T m).foldl applyM B = placesX n B T m) := y8g n B T m;have HL : Hid ((∀ t ∈ meetsX n B T m,t.i < n ∧ t.k < n ∧ t.i ≠ t.k) ∧ (meetsX n B T m).length ≤ 3600) := ⟨fun t ht => y82 ht,Nat.le_trans (y4y n B T m) HB.out.2.2.2.2.2.2⟩;generalize meetsX n B T m = ms at HF HL hsl;obtain ⟨av,cv,rfl,hsh⟩ := hsl.shape
 have H2 : Hid (PW w w1 a1 g n B (.slice av ms.length cv) ms w2) := by
  refine ⟨H1.out.1.only o2 (by simp),hsl,H1.out.2.1.trans o2,H1.out.2.2,fun h0 x hx => ?_⟩;rcases H1.out.1 with q | q
  ·exact absurd q h0
  ·have h1 := hv x hx
   have h2 := q.2.lt;omega
 have HR2 : Hid (Room w2 a1 n c1) := HR1.out.only o2 (fun _ _ _ _ => by simp);clear hsl hsh o2 hv H1 HR1;go_wp2_with fail
 go_loopg [14] ms.length (fun k idx wr => ∃ j : Nat,idx = I (j : Int) ∧ Hid (j ≤ ms.length ∧ k = ms.length - j) ∧ Hid (PW w w1 a1 g n ((ms.take j).foldl applyM B) (.slice av ms.length cv) ms wr) ∧ Hid (Room wr a1 n c1))
 case atStart => exact ⟨0,rfl,⟨by omega,rfl⟩,H2,HR2⟩
 case round =>
  obtain ⟨j,rfl,H4,HP,HR⟩ := hrel;have hl60 := HL.out.2;by_cases hj : j < ms.length
  ·have hjl : (j : Int) < (ms.length : Int) := by omega
   obtain ⟨a',c',ev,hsh⟩ := HP.out.sl.shape;obtain ⟨bm,ha',hbm,hc⟩ := hsh j hj;injection ev with ev1 ev2 ev3
   rw [← ev1] at ha';subst ha'
   have htk : (ms.take (j + 1)).foldl applyM B = applyM ((ms.take j).foldl applyM B) ms[j] := by
    rw [List.take_add_one,List.getElem?_eq_getElem hj,Option.toList_some,List.foldl_append]; rfl
   have HJ := HL.out.1 ms[j] (List.getElem_mem hj);generalize ms[j] = t at hc htk HJ;have HE : Hid ((ms.take (j + 1)).foldl applyM B = applyM ((ms.take j).foldl applyM B) t ∧ t.i < n ∧ t.k < n) := ⟨htk,HJ.1,HJ.2.1⟩;have q0 := hc 0 (by omega); have q1 := hc 1 (by omega); have q2 := hc 2 (by omega); have q3 := hc 3 (by omega); have q4 := hc 4 (by omega); have q5 := hc 5 (by omega); have q6 := hc 6 (by omega); have q7 := hc 7 (by omega); have q8 := hc 8 (by omega);simp only [mtL,zqh,zqi,Nat.add_zero] at q0 q1 q2 q3 q4 q5 q6 q7 q8;clear hc htk HJ hsh ev1 ev2 ev3 hbm;generalize hC : (ms.take j).foldl applyM B = C at HP HE;clear hC;by_cases hd : 655 < t.deep
   ·have HA : Hid (applyM C t = partX C t.i t.k t.x t.y t.all t.way t.deep) := if_pos hd
    go_wp2_with fail
    refine (show Calls Tryz.prog 77 #[.agg #[.pointer (some (Y g (t.i * 17))),.pointer (some (Y g (t.k * 17))),I t.x,I t.y,I t.all,I t.way.x,I t.way.y,I t.way.z,I t.deep]] _ _ from yif g n t.i t.k t.x t.y t.all t.way t.deep C _ (by
     rcases HP.out.own with q | q
     ·have := HE.out.2.1; omega
     ·exact q.2.only ((Only.refl [] wr).alloc _) (by simp)) HE.out.2.1 HE.out.2.2).mono ?_
    rintro e w5 ⟨rfl,hO5,o5,hz5⟩
    have H5 : Hid (PW w w1 a1 g n (partX C t.i t.k t.x t.y t.all t.way t.deep) (.slice (some (Y bm 0)) ms.length cv) ms w5) := by
     have h0 : n ≠ 0 := by have := HE.out.2.1; omega
     have ha : a1 = some (Y g 0) := by
      rcases HP.out.own with q | q
      ·exact absurd q h0
      ·exact q.1
     exact (HP.out.keep ((Only.refl [] wr).alloc _)).turn h0 ha hO5 o5
    have HR5 : Hid (Room w5 a1 n c1) := by
     have h0 : n ≠ 0 := by have := HE.out.2.1; omega
     have ha : a1 = some (Y g 0) := by
      rcases HP.out.own with q | q
      ·exact absurd q h0
      ·exact q.1
     exact (HR.out.only ((Only.refl [] wr).alloc _) (fun _ _ _ _ => by simp)).turn ha hz5
    clear hO5 o5 hz5 q0 q1 q2 q3 q4 q5 q6 q7 q8;go_wp2_with fail
    go_roundg (ms.length - (j + 1))
    case measure => have := H4.out.2; omega
    case rel => exact ⟨j + 1,by go_num,⟨by omega,rfl⟩,by rw [HE.out.1,HA.out]; exact H5,HR5⟩
   ·have HA : Hid (applyM C t = C) := if_neg hd
    go_wp2_with fail
    go_roundg (ms.length - (j + 1))
    case measure => have := H4.out.2; omega
    case rel => exact ⟨j + 1,by go_num,⟨by omega,rfl⟩,by rw [HE.out.1,HA.out]; exact (HP.out.keep ((Only.refl [] wr).alloc _) : PW ..),HR.out.only ((Only.refl [] wr).alloc _) (fun _ _ _ _ => by simp)⟩
  ·have hjl : ¬ (j : Int) < (ms.length : Int) := by omega
   have HE : Hid ((ms.take j).foldl applyM B = placesX n B T m) := by
    show (ms.take j).foldl applyM B = placesX n B T m;rw [List.take_of_length_le (by omega)]; exact HF.out
   go_wp2_with fail
   go_ret
   refine ⟨a1,g,c1,rfl,?_,HP.out.only,HP.out.new,HSL0.out,HR.out,HTD.out⟩;rw [← HE.out]; exact HP.out.own
end Go.Proofs.YtbenlgandjjopaaGreatDoor
