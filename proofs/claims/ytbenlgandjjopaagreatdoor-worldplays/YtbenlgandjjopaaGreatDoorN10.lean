/- . -/
import Derived.Test.YtbenlgandjjopaaGreatDoorN9
import Derived.Carry
open Go.Value renaming int → J
open Go.IntKind renaming i64 → U
open List renaming mem_singleton → zrc
namespace Go.Proofs.YtbenlgandjjopaaGreatDoor
set_option maxRecDepth 100000
set_option maxHeartbeats 4000000
open Go.ChangeShapes Go.WideShapes Go.ChangeAt Go.RowKit
set_option linter.unusedVariables false
set_option linter.unusedSimpArgs false
variable {w w' : World} {n t x g kb cap k m : Nat} {q : Bx} {a : Option Addr} {la st id i : Int} {B : Nat → Bd} {v : Value} {ps : List MemPlace}
def fatX (q : Bx) (n : Int) : Bx := ⟨Go.Proofs.YtbenlgandjjopaaGreatDoor.sub q.x0 n,Go.Proofs.YtbenlgandjjopaaGreatDoor.sub q.x1 n,Go.Proofs.YtbenlgandjjopaaGreatDoor.sub q.x2 n,Go.Proofs.YtbenlgandjjopaaGreatDoor.add q.x3 n,Go.Proofs.YtbenlgandjjopaaGreatDoor.add q.x4 n,Go.Proofs.YtbenlgandjjopaaGreatDoor.add q.x5 n⟩
def topX : Bx := ⟨-70368744177664,-70368744177664,-70368744177664,70368744177664,70368744177664,70368744177664⟩
theorem fat_top : fatX bx0 70368744177664 = topX := by
 have h1 : Go.Proofs.YtbenlgandjjopaaGreatDoor.sub 0 70368744177664 = -70368744177664 := by unfold Go.Proofs.YtbenlgandjjopaaGreatDoor.sub; rw [cut_T,y0l (n := 0) (by omega) (by omega),y0l (by omega) (by omega)]; rfl
 have h2 : Go.Proofs.YtbenlgandjjopaaGreatDoor.add 0 70368744177664 = 70368744177664 := by unfold Go.Proofs.YtbenlgandjjopaaGreatDoor.add; rw [cut_T,y0l (n := 0) (by omega) (by omega),y0l (by omega) (by omega)]; rfl
 simp only [fatX,bx0,topX,h1,h2]
def rightC (q : Bx) : Int := if meetX q q then (if withinX q topX then 0 else 2) else 1
def errV (n : Int) : Value := if n = 0 then .nilIface else .iface 39 (J U n)
theorem yjt (h : rightC q = 0) : meetX q q = true ∧ withinX q topX = true := by
 unfold rightC at h; split at h
 ·split at h
  ·exact ⟨‹_›,‹_›⟩
  ·cases h
 ·cases h
theorem yjy {a n : Int} (h1 : -70368744177664 ≤ a) (h2 : a ≤ 70368744177664) (h3 : 0 ≤ n) (h4 : n ≤ 70368744177664) : Go.Proofs.YtbenlgandjjopaaGreatDoor.sub a n ≤ a := by
 unfold Go.Proofs.YtbenlgandjjopaaGreatDoor.sub; rw [y0l h1 h2,y0l (n := n) (by omega) h4]; unfold cut; split
 ·omega
 ·split <;> omega
theorem ykn {a n : Int} (h1 : -70368744177664 ≤ a) (h2 : a ≤ 70368744177664) (h3 : 0 ≤ n) (h4 : n ≤ 70368744177664) : a ≤ Go.Proofs.YtbenlgandjjopaaGreatDoor.add a n := by
 unfold Go.Proofs.YtbenlgandjjopaaGreatDoor.add; rw [y0l h1 h2,y0l (n := n) (by omega) h4]; unfold cut; split
 ·omega
 ·split <;> omega
theorem y6o {n : Int} (h : rightC q = 0) (h3 : 0 ≤ n) (h4 : n ≤ 3276800) : withinX q (fatX q n) = true := by
 obtain ⟨m,k⟩ := yjt h;rw [y4c] at m;rw [y27] at k ⊢;simp only [topX] at k;simp only [fatX];have a0 := yjy (a := q.x0) (n := n) (by omega) (by omega) h3 (by omega);have a1 := yjy (a := q.x1) (n := n) (by omega) (by omega) h3 (by omega);have a2 := yjy (a := q.x2) (n := n) (by omega) (by omega) h3 (by omega);have a3 := ykn (a := q.x3) (n := n) (by omega) (by omega) h3 (by omega);have a4 := ykn (a := q.x4) (n := n) (by omega) (by omega) h3 (by omega);have a5 := ykn (a := q.x5) (n := n) (by omega) (by omega) h3 (by omega);omega
def BK (k : Nat) (q : Bx) (w w' : World) : Prop := Kept w w' ∧ w'.cell? ⟨k,0,none⟩ = some (J U q.x0) ∧ w'.cell? ⟨k,1,none⟩ = some (J U q.x1) ∧ w'.cell? ⟨k,2,none⟩ = some (J U q.x2) ∧ w'.cell? ⟨k,3,none⟩ = some (J U q.x3) ∧ w'.cell? ⟨k,4,none⟩ = some (J U q.x4) ∧ w'.cell? ⟨k,5,none⟩ = some (J U q.x5)
theorem BK.of (kk : Kept w w') (hq : BoxAt w k q) : BK k q w w' := by
 have h := (Only.of_kept (D := []) kk).box (by simp) hq;exact ⟨kk,h.off 0,h.off 1,h.off 2,h.off 3,h.off 4,h.off 5⟩
theorem yka (q : Bx) (w : World) (hm : meetX q q = false) : Calls Tryz.prog 107 #[.agg #[I q.x0,I q.x1,I q.x2,I q.x3,I q.x4,I q.x5]] w fun e w' => e = .returned (.iface 39 (I 1)) ∧ Kept w w' := by
 unfold meetX at hm;go_enter Tryz.func107,Tryz.ntmps107
 go_wp2_with fail
 refine (y17 _ _ _ _ _ _ _ _ _ _ _ _ _).mono ?_;rintro e w1 ⟨rfl,k1⟩;have H : Hid (Kept w w1) := ((Kept.refl w).alloc _ _).trans k1;clear k1;go_wp2_with fail
 go_ret
 exact ⟨rfl,H.out⟩
theorem yi6 (q : Bx) (w : World) (hm : meetX q q = true) : Calls Tryz.prog 107 #[.agg #[I q.x0,I q.x1,I q.x2,I q.x3,I q.x4,I q.x5]] w fun e w' => e = .returned (errV (if withinX q topX then 0 else 2)) ∧ Kept w w' := by
 unfold meetX at hm;obtain ⟨v,hv⟩ : ∃ v,withinX q topX = v := ⟨_,rfl⟩;rw [hv];rw [← fat_top] at hv;simp only [withinX,fatX,bx0] at hv;go_enter Tryz.func107,Tryz.ntmps107
 go_wp2_with fail
 refine (y17 _ _ _ _ _ _ _ _ _ _ _ _ _).mono ?_;rintro e w1 ⟨rfl,k1⟩;have o0 : Hid (Kept w w1 ∧ BoxAt w1 w.heap.size q) := ⟨((Kept.refl w).alloc _ _).trans k1,(Only.of_kept (D := []) k1).box (by simp) (MapKept.heap_alloc w _).1⟩;clear k1;generalize w.heap.size = k at o0 ⊢;go_wp2_with fail
 refine wp_region_held_drew (S := (fun w' => Kept w1 w' ∧ Zc w' k 0 q.x0 ∧ Zc w' k 1 q.x1 ∧ Zc w' k 2 q.x2 ∧ Zc w' k 3 q.x3 ∧ Zc w' k 4 q.x4 ∧ Zc w' k 5 q.x5)) (by kernel_rfl) ?_ (fun hJ1 => ?_)
 ·exact BK.of kd o0.out.2
 refine tkU 0 (h:=tkV 1 ?_);try simp only [zP]
 refine rdW 2 rfl fun K hK => ?_;simp only [zQ];go_simp
 (go_at_call 109; refine (y3k _ _ _ _ _ _ _ _).mono ?_; rintro e w2 ⟨rfl,k2⟩)
 try go_wp2_with fail
 refine hK.out _ _ ?_ fun hJ2 => ?_
 ·exact BK.of (hJ1.1.trans k2) o0.out.2
 clear hK K hJ1;try simp only [zP]
 refine rdW 3 rfl fun K hK => ?_;simp only [zQ];go_simp
 (go_at_call 147; refine (y2f _ _ _ _ _ _ _ _ _ _ _ _ _).mono ?_; rintro e w3 ⟨rfl,k3⟩)
 try go_wp2_with fail
 refine hK.out _ _ ?_ fun hJ3 => ?_
 ·exact BK.of (hJ2.1.trans k3) o0.out.2
 clear hK K hJ2;try simp only [zP]
 refine tkV 4 ?_;try simp only [zP]
 refine wpAnyH_done (by kernel_rfl) ?_ _;have H : Hid (Kept w w3) := o0.out.1.trans hJ3.1;clear hJ3 o0 hm;cases v
 ·go_wp2_with fail
  go_ret
  exact ⟨rfl,H.out⟩
 ·go_wp2_with fail
  go_ret
  exact ⟨rfl,H.out⟩
theorem y2u (q : Bx) (w : World) : Calls Tryz.prog 107 #[.agg #[I q.x0,I q.x1,I q.x2,I q.x3,I q.x4,I q.x5]] w fun e w' => e = .returned (errV (rightC q)) ∧ Kept w w' := by
 unfold rightC
 cases hm : meetX q q with
 | true => simp only [if_true]; exact yi6 q w hm
 | false => simp only [Bool.false_eq_true,if_false]; exact yka q w hm
def RK (k : Nat) (q : Bx) (b : Nat) (R : Bx) (t : Nat) (fat : Int) (w w' : World) : Prop := Kept w w' ∧ w'.cell? ⟨k,0,none⟩ = some (J U q.x0) ∧ w'.cell? ⟨k,1,none⟩ = some (J U q.x1) ∧ w'.cell? ⟨k,2,none⟩ = some (J U q.x2) ∧ w'.cell? ⟨k,3,none⟩ = some (J U q.x3) ∧ w'.cell? ⟨k,4,none⟩ = some (J U q.x4) ∧ w'.cell? ⟨k,5,none⟩ = some (J U q.x5) ∧ w'.cell? ⟨b,7,none⟩ = some (J U R.x0) ∧ w'.cell? ⟨b,8,none⟩ = some (J U R.x1) ∧ w'.cell? ⟨b,9,none⟩ = some (J U R.x2) ∧ w'.cell? ⟨b,10,none⟩ = some (J U R.x3) ∧ w'.cell? ⟨b,11,none⟩ = some (J U R.x4) ∧ w'.cell? ⟨b,12,none⟩ = some (J U R.x5) ∧ w'.cell? ⟨t,0,none⟩ = some (J U fat)
theorem RK.of {b : Nat} {n : Nd} {fat : Int} {r lv : Option Nat} (kk : Kept w w') (hq : BoxAt w k q) (hn : NodeAt w b n) (ht : TreeAt w t fat r lv) : RK k q b n.room t fat w w' := by
 have h := (Only.of_kept (D := []) kk).box (by simp) hq;have h2 := hn.kept kk;have h3 := (Only.of_kept (D := []) kk).tree (by simp) ht;exact ⟨kk,h.off 0,h.off 1,h.off 2,h.off 3,h.off 4,h.off 5,h2.c7,h2.c8,h2.c9,h2.c10,h2.c11,h2.c12,h3.c0⟩
theorem yem (t b : Nat) (n : Nd) (fat : Int) (r lv : Option Nat) (q : Bx) (w : World) (hn : NodeAt w b n) (ht : TreeAt w t fat r lv) (h0 : 0 ≤ fat) (h1 : fat ≤ 3276800) :
  Calls Tryz.prog 108 #[.pointer (some (Y t 0)),.pointer (some (Y b 0)),.agg #[I q.x0,I q.x1,I q.x2,I q.x3,I q.x4,I q.x5]] w fun e w' => (∃ v,e = .returned (.bool v) ∧ (v = true → withinX q n.room = true)) ∧ Kept w w' := by
 have HN : Hid (NodeAt w b n ∧ TreeAt w t fat r lv) := ⟨hn,ht⟩;clear hn ht;obtain ⟨R,hR⟩ : ∃ R,R = n.room := ⟨_,rfl⟩;rw [← hR]
 cases hv : withinX q R with
 | true =>
  unfold withinX at hv;go_enter Tryz.func108,Tryz.ntmps108
  go_wp2_with fail
  have o0 : Hid (Kept w _ ∧ BoxAt _ w.heap.size q) := ⟨(Kept.refl w).alloc #[I q.x0,I q.x1,I q.x2,I q.x3,I q.x4,I q.x5] 57,(MapKept.heap_alloc w _).1⟩;revert o0;generalize World.alloc w _ = w0;generalize w.heap.size = k;intro o0;have hn0 := HN.out.1.kept o0.out.1;have ht0 := (Only.of_kept (D := []) o0.out.1).tree (by simp) HN.out.2;have HB : Hid (∀ w',Kept w0 w' → RK k q b R t fat w0 w') := fun w' kk => by rw [hR]; exact RK.of kk o0.out.2 hn0 ht0
  clear hn0 ht0 hR;refine wp_region_held_drew (S := (fun w' => Kept w0 w' ∧ Zc w' k 0 q.x0 ∧ Zc w' k 1 q.x1 ∧ Zc w' k 2 q.x2 ∧ Zc w' k 3 q.x3 ∧ Zc w' k 4 q.x4 ∧ Zc w' k 5 q.x5 ∧ Zc w' b 7 R.x0 ∧ Zc w' b 8 R.x1 ∧ Zc w' b 9 R.x2 ∧ Zc w' b 10 R.x3 ∧ Zc w' b 11 R.x4 ∧ Zc w' b 12 R.x5 ∧ Zc w' t 0 fat)) (by kernel_rfl) ?_ (fun hJ1 => ?_)
  ·exact HB.out _ kd
  refine tkU 0 (h:=tkU 1 (h:=tkU 2 (h:=tkV 3 ?_)));try simp only [zP]
  refine tkV 4 ?_;try simp only [zP]
  refine rdW 5 rfl fun K hK => ?_;simp only [zQ];go_simp
  (go_at_call 147; refine (y2f _ _ _ _ _ _ _ _ _ _ _ _ _).mono ?_; rintro e w1 ⟨rfl,k1⟩)
  try go_wp2_with fail
  refine hK.out _ _ ?_ fun hJ2 => ?_
  ·exact HB.out _ (hJ1.1.trans k1)
  clear hK K hJ1;try simp only [zP]
  refine tkU 6 (h:=tkU 7 (h:=tkU 8 (h:=tkV 9 ?_)));try simp only [zP]
  refine tkU 10 (h:=tkU 11 (h:=tkU 12 (h:=tkV 13 ?_)));try simp only [zP]
  refine tkU 14 (h:=tkU 15 (h:=tkV 16 ?_));try simp only [zP]
  refine rdW 17 rfl fun K hK => ?_;simp only [zQ];go_simp
  (go_at_call 109; refine (y3k _ _ _ _ _ _ _ _).mono ?_; rintro e w2 ⟨rfl,k2⟩)
  try go_wp2_with fail
  refine hK.out _ _ ?_ fun hJ3 => ?_
  ·exact HB.out _ (hJ2.1.trans k2)
  clear hK K hJ2;try simp only [zP]
  refine rdW 18 rfl fun K hK => ?_;simp only [zQ];go_simp
  (go_at_call 147; refine (y2f _ _ _ _ _ _ _ _ _ _ _ _ _).mono ?_; rintro e w3 ⟨rfl,k3⟩)
  try go_wp2_with fail
  refine hK.out _ _ ?_ fun hJ4 => ?_
  ·exact HB.out _ (hJ3.1.trans k3)
  clear hK K hJ3;try simp only [zP]
  refine tkU 19 (h:=tkV 20 ?_);try simp only [zP]
  refine wpAnyH_done (by kernel_rfl) ?_ _;have H : Hid (Kept w w3) := o0.out.1.trans hJ4.1;clear hJ4;go_wp2_with fail
  go_ret
  exact ⟨⟨_,rfl,fun _ => by first | trivial | rfl⟩,H.out⟩
 | false =>
  unfold withinX at hv;go_enter Tryz.func108,Tryz.ntmps108
  go_wp2_with fail
  have o0 : Hid (Kept w _ ∧ BoxAt _ w.heap.size q) := ⟨(Kept.refl w).alloc #[I q.x0,I q.x1,I q.x2,I q.x3,I q.x4,I q.x5] 57,(MapKept.heap_alloc w _).1⟩;revert o0;generalize World.alloc w _ = w0;generalize w.heap.size = k;intro o0;have hn0 := HN.out.1.kept o0.out.1;have ht0 := (Only.of_kept (D := []) o0.out.1).tree (by simp) HN.out.2;have HB : Hid (∀ w',Kept w0 w' → RK k q b R t fat w0 w') := fun w' kk => by rw [hR]; exact RK.of kk o0.out.2 hn0 ht0
  clear hn0 ht0 hR;refine wp_region_held_drew (S := (fun w' => Kept w0 w' ∧ Zc w' k 0 q.x0 ∧ Zc w' k 1 q.x1 ∧ Zc w' k 2 q.x2 ∧ Zc w' k 3 q.x3 ∧ Zc w' k 4 q.x4 ∧ Zc w' k 5 q.x5 ∧ Zc w' b 7 R.x0 ∧ Zc w' b 8 R.x1 ∧ Zc w' b 9 R.x2 ∧ Zc w' b 10 R.x3 ∧ Zc w' b 11 R.x4 ∧ Zc w' b 12 R.x5 ∧ Zc w' t 0 fat)) (by kernel_rfl) ?_ (fun hJ1 => ?_)
  ·exact HB.out _ kd
  refine tkU 0 (h:=tkU 1 (h:=tkU 2 (h:=tkV 3 ?_)));try simp only [zP]
  refine tkV 4 ?_;try simp only [zP]
  refine rdW 5 rfl fun K hK => ?_;simp only [zQ];go_simp
  (go_at_call 147; refine (y2f _ _ _ _ _ _ _ _ _ _ _ _ _).mono ?_; rintro e w1 ⟨rfl,k1⟩)
  try go_wp2_with fail
  refine hK.out _ _ ?_ fun hJ2 => ?_
  ·exact HB.out _ (hJ1.1.trans k1)
  clear hK K hJ1;try simp only [zP]
  refine tkV 6 ?_;try simp only [zP]
  refine skW 7 rfl ?_; refine skW 8 rfl ?_; refine skW 9 rfl ?_; refine skW 10 rfl ?_;try simp only [zP]
  refine skW 11 rfl ?_; refine skW 12 rfl ?_; refine skW 13 rfl ?_; refine skW 14 rfl ?_;try simp only [zP]
  refine skW 15 rfl ?_; refine skW 16 rfl ?_; refine skW 17 rfl ?_; refine skW 18 rfl ?_;try simp only [zP]
  refine tkU 19 (h:=tkV 20 ?_);try simp only [zP]
  refine wpAnyH_done (by kernel_rfl) ?_ _;have H : Hid (Kept w w1) := o0.out.1.trans hJ2.1;clear hJ2;go_wp2_with fail
  go_ret
  exact ⟨⟨_,rfl,fun h => by cases h⟩,H.out⟩
def rightW (q : Bd) : Int := if rightB q.kd q.sx q.sy q.sz = true then (if upX q.ow 8 = true ∧ upX q.ms 65536000 = true ∧ beyX 65536000 q.ax q.ay q.az = false ∧ beyX 6553600 q.vx q.vy q.vz = false ∧ beyX 6553600 q.px q.py q.pz = false then 0 else 2) else 1
theorem BodyAt.kept {q : Bd} (h : BodyAt w kb q) (k : Kept w w') : BodyAt w' kb q := h.only (Only.of_kept k)
theorem ye7 (q : Bd) (w : World) : Calls Tryz.prog 38 #[.agg (bdA q)] w fun e w' => e = .returned (errV (rightW q)) ∧ Kept w w' := by
 go_enter Tryz.func38,Tryz.ntmps38
 go_upto_region 1 with fail
 have H1 : Hid (BodyAt (w.alloc (.cells (bdA q) 45)) w.heap.size q ∧ Kept w (w.alloc (.cells (bdA q) 45))) := ⟨(MapKept.heap_alloc w _).1,(Kept.refl w).alloc _ _⟩;revert H1;generalize w.heap.size = kb;generalize World.alloc w _ = w1;intro H1;have e2 := H1.out.1.off 2; have e3 := H1.out.1.off 3; have e4 := H1.out.1.off 4; have e5 := H1.out.1.off 5;simp only [zR] at e2 e3 e4 e5;go_wp2_with fail
 refine (ydu _ _ _ _ _).mono ?_;rintro e w2 ⟨rfl,k2⟩;have H2 : Hid (BodyAt w2 kb q ∧ Kept w w2) := ⟨H1.out.1.kept k2,H1.out.2.trans k2⟩;clear e2 e3 e4 e5 k2 H1
 cases h0 : rightB q.kd q.sx q.sy q.sz with
 | false =>
  have HE : Hid (rightW q = 1) := by show rightW q = 1; unfold rightW; simp [h0]
  clear h0;go_wp2_with fail
  go_ret
  exact ⟨by rw [HE.out]; rfl,H2.out.2⟩
 | true =>
  have G0 : Hid (rightB q.kd q.sx q.sy q.sz = true) := h0;clear h0;have e1 := H2.out.1.off 1;simp only [zR] at e1;go_wp2_with fail
  refine (y6j _ _ _).mono ?_;rintro e w3 ⟨rfl,hw3⟩;have H3 : Hid (BodyAt w3 kb q ∧ Kept w w3) := by rw [hw3]; exact ⟨H2.out.1,H2.out.2⟩
  clear hw3 H2 e1
  cases h0 : upX q.ow 8 with
  | false =>
   have HE : Hid (rightW q = 2) := by show rightW q = 2; unfold rightW; simp [G0.out,h0]
   clear h0;go_wp2_with fail
   go_ret
   exact ⟨by rw [HE.out]; rfl,H3.out.2⟩
  | true =>
   have G1 : Hid (upX q.ow 8 = true) := h0;clear h0;have e15 := H3.out.1.off 15;simp only [zR] at e15;go_wp2_with fail
   refine (y6j _ _ _).mono ?_;rintro e w4 ⟨rfl,hw4⟩;have H4 : Hid (BodyAt w4 kb q ∧ Kept w w4) := by rw [hw4]; exact ⟨H3.out.1,H3.out.2⟩
   clear hw4 H3 e15
   cases h0 : upX q.ms 65536000 with
   | false =>
    have HE : Hid (rightW q = 2) := by show rightW q = 2; unfold rightW; simp [G0.out,G1.out,h0]
    clear h0;go_wp2_with fail
    go_ret
    exact ⟨by rw [HE.out]; rfl,H4.out.2⟩
   | true =>
    have G2 : Hid (upX q.ms 65536000 = true) := h0;clear h0;have e6 := H4.out.1.off 6;have e7 := H4.out.1.off 7;have e8 := H4.out.1.off 8;simp only [zR] at e6 e7 e8;go_wp2_with fail
    refine (y2e _ _ _ _ _ (by decide) (by decide)).mono ?_;rintro e w5 ⟨rfl,k5⟩;have H5 : Hid (BodyAt w5 kb q ∧ Kept w w5) := ⟨H4.out.1.kept k5,H4.out.2.trans k5⟩;clear k5 H4 e6 e7 e8
    cases h0 : beyX 65536000 q.ax q.ay q.az with
    | true =>
     have HE : Hid (rightW q = 2) := by show rightW q = 2; unfold rightW; simp [G0.out,G1.out,G2.out,h0]
     clear h0;go_wp2_with fail
     go_ret
     exact ⟨by rw [HE.out]; rfl,H5.out.2⟩
    | false =>
     have G3 : Hid (beyX 65536000 q.ax q.ay q.az = false) := h0;clear h0;have e9 := H5.out.1.off 9;have e10 := H5.out.1.off 10;have e11 := H5.out.1.off 11;simp only [zR] at e9 e10 e11;go_wp2_with fail
     refine (y2e _ _ _ _ _ (by decide) (by decide)).mono ?_;rintro e w6 ⟨rfl,k6⟩;have H6 : Hid (BodyAt w6 kb q ∧ Kept w w6) := ⟨H5.out.1.kept k6,H5.out.2.trans k6⟩;clear k6 H5 e9 e10 e11
     cases h0 : beyX 6553600 q.vx q.vy q.vz with
     | true =>
      have HE : Hid (rightW q = 2) := by show rightW q = 2; unfold rightW; simp [G0.out,G1.out,G2.out,G3.out,h0]
      clear h0;go_wp2_with fail
      go_ret
      exact ⟨by rw [HE.out]; rfl,H6.out.2⟩
     | false =>
      have G4 : Hid (beyX 6553600 q.vx q.vy q.vz = false) := h0;clear h0;have e12 := H6.out.1.off 12;have e13 := H6.out.1.off 13;have e14 := H6.out.1.off 14;simp only [zR] at e12 e13 e14;go_wp2_with fail
      refine (y2e _ _ _ _ _ (by decide) (by decide)).mono ?_;rintro e w7 ⟨rfl,k7⟩;have H7 : Hid (BodyAt w7 kb q ∧ Kept w w7) := ⟨H6.out.1.kept k7,H6.out.2.trans k7⟩;clear k7 H6 e12 e13 e14
      cases h0 : beyX 6553600 q.px q.py q.pz with
      | true =>
       have HE : Hid (rightW q = 2) := by show rightW q = 2; unfold rightW; simp [G0.out,G1.out,G2.out,G3.out,G4.out,h0]
       clear h0;go_wp2_with fail
       go_ret
       exact ⟨by rw [HE.out]; rfl,H7.out.2⟩
      | false =>
       have G5 : Hid (beyX 6553600 q.px q.py q.pz = false) := h0;clear h0;have HE : Hid (rightW q = 0) := by show rightW q = 0; unfold rightW; simp [G0.out,G1.out,G2.out,G3.out,G4.out,G5.out]
       go_wp2_with fail
       go_ret
       exact ⟨by rw [HE.out]; rfl,H7.out.2⟩
structure Wc where
 (fx fy fz bo ru ro qt : Int)
variable {c : Wc}
def WorldAt (w : World) (x : Nat) (c : Wc) (a : Option Addr) (n cap t : Nat) (la st : Int) : Prop :=
 w.heap[x]? = some (.cells #[J U c.fx,J U c.fy,J U c.fz,J U c.bo,J U c.ru,J U c.ro,J U c.qt,.slice a n cap,.pointer (some ⟨t,0,none⟩),J U la,J U st] 82)
theorem WorldAt.off (h : WorldAt w x c a n cap t la st) (j : Nat) :
  w.cell? (Y x j) = (#[I c.fx,I c.fy,I c.fz,I c.bo,I c.ru,I c.ro,I c.qt,.slice a n cap,.pointer (some (Y t 0)),I la,I st] : Array Value)[j]? := by
 unfold WorldAt at h; simp [World.cell?,h]
theorem WorldAt.only {D : List Nat} (h : WorldAt w x c a n cap t la st) (o : Only D w w') (s : x ∉ D) : WorldAt w' x c a n cap t la st := (o.block x (Array.getElem?_eq_some_iff.1 h).1 s).trans h
theorem WorldAt.lt (h : WorldAt w x c a n cap t la st) : x < w.heap.size := (Array.getElem?_eq_some_iff.1 h).1
theorem WorldAt.free (h : WorldAt w x c a n cap t la st) (j : Nat) : w.frozen? (Y x j) = false := by
 unfold WorldAt at h; simp [World.frozen?,h]
def HoldAt (w : World) (k2 k3 x : Nat) (id : Int) : Prop := w.cell? ⟨k2,0,none⟩ = some (.pointer (some ⟨x,0,none⟩)) ∧ w.cell? ⟨k3,0,none⟩ = some (J U id)
theorem HoldAt.only {k2 k3 : Nat} (h : HoldAt w k2 k3 x id) (o : Only [] w w') : HoldAt w' k2 k3 x id := ⟨y09 o h.1,y09 o h.2⟩
theorem y9k (i k2 k3 x : Nat) (id : Int) (c : Wc) (a : Option Addr) (n cap t : Nat) (la st : Int) (B : Nat → Bd) (w : World) (hi : i < n) (hn : n ≤ 60) (hh : HoldAt w k2 k3 x id) (hw : WorldAt w x c a n cap t la st) (hb : BodiesAt w a n B) :
  Calls Tryz.prog 71 #[I ((i : Int)),.pointer (some (Y k2 0)),.pointer (some (Y k3 0))] w fun e w' => e = .returned (.bool (decide (id ≤ (B i).id))) ∧ Only [] w w' := by
 obtain ⟨h2,h3⟩ := hh;have s7 := hw.off 7;simp only [zR] at s7;obtain ⟨g,o,rfl,hc⟩ := hb i hi;have d0 := hc 0 (by omega);simp only [bc,Nat.add_zero] at d0;have hil : (i : Int) < (n : Int) := by omega
 clear hc hw hb;go_enter Tryz.func71,Tryz.ntmps71
 go_wp2_with fail
 go_quiet (fail)
 go_wp2_with fail
 go_ret
 exact ⟨rfl,Only.drewN _ _⟩
def Stops (B : Nat → Bd) (n : Nat) (id : Int) (r : Nat) : Prop := r ≤ n ∧ (r = 0 ∨ (B (r - 1)).id < id) ∧ (r = n ∨ id ≤ (B r).id)
theorem ydr (k2 k3 x : Nat) (id : Int) (c : Wc) (a : Option Addr) (n cap t : Nat) (la st : Int) (B : Nat → Bd) (w : World) (hn : n ≤ 60) (hh : HoldAt w k2 k3 x id) (hw : WorldAt w x c a n cap t la st) (hb : BodiesAt w a n B) :
  Calls Tryz.prog 70 #[I ((n : Int)),.func (.func 71) #[] #[.pointer (some (Y k2 0)),.pointer (some (Y k3 0))]] w fun e w' => ∃ r : Nat,e = .returned (I ((r : Int))) ∧ Stops B n id r ∧ Only [] w w' := by
 have HB : Hid (HoldAt w k2 k3 x id ∧ WorldAt w x c a n cap t la st ∧ BodiesAt w a n B ∧ n ≤ 60) := ⟨hh,hw,hb,hn⟩;clear hh hw hb hn;go_enter Tryz.func70,Tryz.ntmps70
 go_wp2_with fail
 go_loopg [5,6] n (fun k iv jv wr => ∃ i j : Nat,iv = I (i : Int) ∧ jv = I (j : Int) ∧ Hid (i ≤ j ∧ j ≤ n ∧ k = j - i ∧ (i = 0 ∨ (B (i - 1)).id < id) ∧ (j = n ∨ id ≤ (B j).id)) ∧ Hid (Only [] w wr))
 case atStart => exact ⟨0,n,rfl,rfl,⟨by omega,by omega,rfl,Or.inl rfl,Or.inl rfl⟩,Only.refl _ _⟩
 case round =>
  obtain ⟨i,j,rfl,rfl,H1,HO⟩ := hrel;have hn := HB.out.2.2.2;by_cases hij : i < j
  ·have hijl : (i : Int) < (j : Int) := by omega
   have hj := H1.out.2.1;obtain ⟨h,hh⟩ : ∃ h,h = (i + j) / 2 := ⟨_,rfl⟩;have hhf : ((i : Int) + (j : Int)) / 2 = (h : Int) := by omega
   have HH : Hid (i ≤ h ∧ h < j) := ⟨by omega,by omega⟩;clear hh;go_wp2_with fail
   try simp only [hhf]
   clear hhf;refine (y9k h k2 k3 x id c a n cap t la st B wr (by have := HH.out; omega) hn (HB.out.1.only HO.out) (HB.out.2.1.only HO.out (by simp)) (HB.out.2.2.1.only HO.out)).mono ?_;rintro e w2 ⟨rfl,o2⟩;have HO2 : Hid (Only [] w w2) := HO.out.trans o2;have hh60 : h < 60 := by have := HH.out; omega
   clear o2 HO;by_cases hle : id ≤ (B h).id
   ·have hd : decide (id ≤ (B h).id) = true := by simpa using hle
    rw [hd];clear hd;go_wp2_with fail
    go_roundg (h - i)
    case measure => have h1 := H1.out.2.2.1; have h2 := HH.out; omega
    case rel => exact ⟨i,h,rfl,rfl,⟨HH.out.1,by have := HH.out; omega,rfl,H1.out.2.2.2.1,Or.inr hle⟩,HO2⟩
   ·have hd : decide (id ≤ (B h).id) = false := by simpa using hle
    rw [hd];clear hd;go_wp2_with fail
    go_roundg (j - (h + 1))
    case measure => have h1 := H1.out.2.2.1; have h2 := HH.out; omega
    case rel => exact ⟨h + 1,j,by go_num,rfl,⟨by have := HH.out; omega,hj,rfl,Or.inr (by show (B h).id < id; omega),H1.out.2.2.2.2⟩,HO2⟩
  ·have hijl : ¬ (i : Int) < (j : Int) := by omega
   go_wp2_with fail
   go_ret
   obtain ⟨h1,h2,h3,h4,h5⟩ := H1.out;obtain rfl : i = j := by omega
   exact ⟨i,rfl,⟨h2,h4,h5⟩,HO.out⟩
def FindIs (B : Nat → Bd) (n : Nat) (id : Int) (r : Nat) (v : Bool) : Prop := Stops B n id r ∧ v = decide (r < n ∧ (B r).id = id)
theorem y5b (x : Nat) (id : Int) (c : Wc) (a : Option Addr) (n cap t : Nat) (la st : Int) (B : Nat → Bd) (w : World) (hn : n ≤ 60) (hw : WorldAt w x c a n cap t la st) (hb : BodiesAt w a n B) :
  Calls Tryz.prog 41 #[.pointer (some (Y x 0)),I id] w fun e w' => ∃ (r : Nat) (v : Bool),e = .returned (.tuple #[I ((r : Int)),.bool v]) ∧ FindIs B n id r v ∧ Only [] w w' := by
 have HB : Hid (WorldAt w x c a n cap t la st ∧ BodiesAt w a n B ∧ n ≤ 60) := ⟨hw,hb,hn⟩;clear hw hb hn;have hmf := hmfT;go_enter Tryz.func41,Tryz.ntmps41
 go_upto_region 1 with fail
 have H0 : Hid (HoldAt ((w.alloc (.cells #[.pointer (some (Y x 0))] 29)).alloc (.cells #[I id] 3)) w.heap.size (w.heap.size + 1) x id ∧ Only [] w ((w.alloc (.cells #[.pointer (some (Y x 0))] 29)).alloc (.cells #[I id] 3))) := by
  have hs : (w.alloc (.cells #[.pointer (some (Y x 0))] 29)).heap.size = w.heap.size + 1 := by simp
  refine ⟨⟨?_,?_⟩,((Only.refl [] w).alloc _).alloc _⟩
  ·exact y09 ((Only.refl [] (w.alloc (.cells #[.pointer (some (Y x 0))] 29))).alloc _) (by simp)
  ·simp
 revert H0;generalize w.heap.size + 1 = k3;generalize w.heap.size = k2;generalize World.alloc (World.alloc w _) _ = w1;intro H0;have h2 := H0.out.1.1; have h3 := H0.out.1.2;have s7 := (HB.out.1.only H0.out.2 (by simp)).off 7;simp only [zR] at s7;go_wp2_with fail
 refine (ydr k2 k3 x id c a n cap t la st B w1 HB.out.2.2 H0.out.1 (HB.out.1.only H0.out.2 (by simp)) (HB.out.2.1.only H0.out.2)).mono ?_;rintro e w2 ⟨r,rfl,hst,o2⟩;have H2 : Hid (HoldAt w2 k2 k3 x id ∧ Only [] w w2 ∧ Stops B n id r) := ⟨H0.out.1.only o2,H0.out.2.trans o2,hst⟩;clear h2 h3 s7 hst o2 H0 hmf;have h2 := H2.out.1.1; have h3 := H2.out.1.2;have s7 := (HB.out.1.only H2.out.2.1 (by simp)).off 7;simp only [zR] at s7;by_cases hr : r < n
 ·have hrl : (r : Int) < (n : Int) := by omega
  obtain ⟨g,o,rfl,hc⟩ := (HB.out.2.1.only H2.out.2.1) r hr;have d0 := hc 0 (by omega);simp only [bc,Nat.add_zero] at d0;clear hc;obtain ⟨v,hv⟩ : ∃ v,((B r).id == id) = v := ⟨_,rfl⟩;have HV : Hid (FindIs B n id r v) := ⟨H2.out.2.2,by rw [← hv]; by_cases q : (B r).id = id <;> simp [hr,q]⟩;go_wp2_with fail
  go_quiet (fail)
  go_wp2_with fail
  exact bodyPost_ret (v := .tuple #[I ((r : Int)),.bool v]) (by simp [results,Tryz.results41,go_sem,hv]) rfl ⟨r,v,rfl,HV.out,H2.out.2.1.trans (Only.drewN _ _)⟩
 ·have hrl : decide ((r : Int) < (n : Int)) = false := by simp; omega
  have HV : Hid (FindIs B n id r false) := ⟨H2.out.2.2,by simp [hr]⟩;go_wp2_with fail
  go_quiet (fail)
  go_wp2_with fail
  exact bodyPost_ret (v := .tuple #[I ((r : Int)),.bool false]) (by simp [results,Tryz.results41,go_sem]) rfl ⟨r,false,rfl,HV.out,H2.out.2.1.trans (Only.drewN _ _)⟩
open Go.Maps (Keyed)
def bodyElem (g : Nat) : Value → Option (DataW Unit × List MemPlace)
 | .pointer none => some (.nil,[])
 | .pointer (some ⟨b,o,none⟩) => if b = g ∧ o % 17 = 0 then some (.lit (.int .i64 (o / 17 : Nat)),[]) else none
 | _ => none
def ptrO (g : Nat) : Option Nat → Value
 | none => .pointer none
 | some i => .pointer (some ⟨g,i * 17,none⟩)
theorem yaw {i : Nat} (h : bodyElem g v = some (.lit (.int .i64 i),ps)) : v = .pointer (some (Y g (i * 17))) := by
 unfold bodyElem at h;split at h
 ·cases h
 ·split at h
  ·rename_i b o hc
   simp only [Option.some.injEq,Prod.mk.injEq,DataW.lit.injEq,Lit.int.injEq,true_and] at h;have h1 := Int.ofNat.inj h.1;obtain ⟨rfl,h2⟩ := hc;have : o = i * 17 := by omega
   rw [this]
  ·cases h
 ·cases h
theorem yax (h : bodyElem g v = some (.nil,ps)) : v = .pointer none := by
 unfold bodyElem at h;split at h
 ·rfl
 ·split at h
  ·cases h
  ·cases h
 ·cases h
theorem yg9 (g i : Nat) : bodyElem g (.pointer (some (Y g (i * 17)))) = some (.lit (.int .i64 i),[]) := by
 have h1 : i * 17 % 17 = 0 := by omega
 have h2 : i * 17 / 17 = i := by omega
 simp [bodyElem,h1,h2]
@[reducible] def keyS (i : Int) : Lit := .int .i64 i
theorem yjb {j : Int} (h : i ≠ j) : keyS i ≠ keyS j := fun e => h (by injection e)
theorem ygm (i : Int) : WideAt.IsKeyLit (keyS i) := trivial
theorem intKeyS : Keyed Tryz.prog 3 := Maps.int_keyed Tryz.underlying3
def In64S (i : Int) : Prop := (Lit.int .i64 i).wf = true
theorem keyIsS (h : In64S i) : keyOf Tryz.prog 3 (.int .i64 i) = some (keyS i) := Maps.keyOf_int_mk Tryz.underlying3 h
structure BookS (D : DataW Unit) (B : Nat → Bd) (k : Nat) : Prop where
 tidy : Maps.Tidy D
 there : ∀ i,i < k → D.atKey (keyS (B i).id) .nil = .lit (.int .i64 i)
 gone : ∀ id,(∀ i,i < k → (B i).id ≠ id) → Maps.has D (keyS id) = false
 size : Maps.size D ≤ k
theorem BookS.empty (B : Nat → Bd) : BookS (.map []) B 0 := ⟨Maps.tidy_empty,fun i hi => by omega,fun id _ => by simp [Maps.has],Nat.le_refl _⟩
theorem BookS.put {D : DataW Unit} {B : Nat → Bd} {k : Nat} (h : BookS D B k) (hk : ∀ i,i < k → (B i).id ≠ (B k).id) : BookS (D.put (keyS (B k).id) (.lit (.int .i64 k))) B (k + 1) := by
 refine ⟨h.tidy.put (ygm _) _,fun i hi => ?_,fun id hid => ?_,?_⟩
 ·by_cases e : i = k
  ·subst e; exact Maps.atKey_put_same h.tidy.isMap (ygm _) _ _
  ·rw [Maps.atKey_put_other (yjb (hk i (by omega)))]; exact h.there i (by omega)
 ·rw [Maps.has_put_other (yjb (fun e => hid k (by omega) e.symm))]
  exact h.gone id (fun i hi => hid i (by omega))
 ·rw [Maps.size_put h.tidy]
  have := h.size;split <;> omega
def FindAt (w : World) (kb m g n : Nat) (B : Nat → Bd) : Prop :=
 w.heap[kb]? = some (.cells #[.map (some m)] 197) ∧ ∃ D : DataW Unit,w.ownsMap Tryz.prog 3 (bodyElem g) m n D ∧ BookS D B n
theorem FindAt.lt {w : World} {kb m g n : Nat} {B : Nat → Bd} (h : FindAt w kb m g n B) : kb < w.heap.size ∧ m < w.heap.size := by
 obtain ⟨h1,D,h2,_⟩ := h;exact ⟨(Array.getElem?_eq_some_iff.1 h1).1,h2.lt⟩
theorem FindAt.only {E : List Nat} (h : FindAt w kb m g n B) (o : Only E w w') (s1 : kb ∉ E) (s2 : m ∉ E) : FindAt w' kb m g n B := by
 obtain ⟨h1,D,h2,h3⟩ := h;refine ⟨(o.block kb (Array.getElem?_eq_some_iff.1 h1).1 s1).trans h1,D,?_,h3⟩;have hlt := h2.lt;obtain ⟨es,clock,hb,r⟩ := h2;exact ⟨es,clock,(o.block m hlt s2).trans hb,r⟩
theorem zeroBodyPtr (w : World) : (zeroValue 127).run Tryz.prog w = .ok (.pointer none) w := by kernel_rfl
theorem FindAt.look (h : FindAt w kb m g n B) (hi : In64S id) (hal : Alone n B) : (Instr.lookup 197 (.map (some m)) (I id) false).run Tryz.prog w = .ok (ptrO g (findX B id n)) w := by
 obtain ⟨h1,D,h2,h3⟩ := h;obtain ⟨v,ps,hr,hv⟩ := h2.lookup intKeyS Tryz.underlying197 (zeroBodyPtr w) (zd := .nil) (zp := []) rfl (keyIsS hi);rw [hr]
 cases hf : findX B id n with
 | none =>
  rw [Maps.atKey_of_not_has (h3.gone id (y4o hf))] at hv;rw [yax hv]; rfl
 | some i =>
  obtain ⟨hi1,hi2⟩ := y0c hf;rw [← hi2,h3.there i hi1] at hv;rw [yaw hv]; rfl
theorem yal (kb m g n : Nat) (B : Nat → Bd) (id : Int) (w : World) (h : FindAt w kb m g n B) (hi : In64S id) (hal : Alone n B) :
  Calls Tryz.prog 152 #[I id,.pointer (some (Y kb 0))] w fun e w' => e = .returned (ptrO g (findX B id n)) ∧ w' = w := by
 have hl := h.look hi hal;have hc : w.cell? (Y kb 0) = some (.map (some m)) := by simp [World.cell?,h.1]
 generalize ptrO g (findX B id n) = v at hl;clear h;go_enter Tryz.func152,Tryz.ntmps152
 go_wp2_with fail
 go_ret
 exact ⟨rfl,rfl⟩
def FinderPost (g n : Nat) (B : Nat → Bd) (w : World) (e : Ending) (w' : World) : Prop :=
 ∃ kb m,e = .returned (.func (.func 152) #[] #[.pointer (some ⟨kb,0,none⟩)]) ∧ FindAt w' kb m g n B ∧ Only [] w w' ∧ w.heap.size ≤ kb ∧ w.heap.size ≤ m
theorem ycy (a : Option Addr) (g n c : Nat) (B : Nat → Bd) (w : World) (hn : n ≤ 60) (h : OwnS w a g n B) (hal : Alone n B) (hid : ∀ j,j < n → In64S (B j).id) :
  Calls Tryz.prog 114 #[.slice a n c] w (FinderPost g n B w) := by
 have hmk : ∀ (k : Int) (w : World),0 ≤ k → (Instr.makeMap 197 (some (I k))).run Tryz.prog w = .ok (.map (some w.heap.size)) (w.alloc (.map #[] 0)) := fun k w hk => by
  simp [Instr.makeMap,run_underlying Tryz.underlying197,asInt,asIntOf,Result.andThen]
 have hmf := hmfT;have hmk := hmk (n : Int) w (by omega);have HB : Hid (OwnS w a g n B ∧ Alone n B ∧ (∀ j,j < n → In64S (B j).id) ∧ n ≤ 60) := ⟨h,hal,hid,hn⟩;clear h hal hid hn;go_enter Tryz.func114,Tryz.ntmps114
 go_wp2_with fail
 have H0 : Hid (FindAt ((w.alloc (.map #[] 0)).alloc (.cells #[.map (some w.heap.size)] 197)) (w.heap.size + 1) w.heap.size g 0 B ∧ Only [] w ((w.alloc (.map #[] 0)).alloc (.cells #[.map (some w.heap.size)] 197)) ∧ w.heap.size ≤ w.heap.size + 1 ∧ w.heap.size ≤ w.heap.size ∧ w.heap.size + 1 ≠ w.heap.size) := by
  have hs : (w.alloc (.map #[] 0)).heap.size = w.heap.size + 1 := by simp
  have hk := (MapKept.heap_alloc (w.alloc (.map #[] 0)) (.cells #[.map (some w.heap.size)] 197)).1;rw [hs] at hk;exact ⟨⟨hk,_,World.ownsMap.alloc (World.ownsMap_made w Tryz.prog 3 (bodyElem g)) _,BookS.empty B⟩,((Only.refl [] w).alloc _).alloc _,by omega,by omega,by omega⟩
 clear hmk;revert H0;generalize w.heap.size + 1 = kb;generalize World.alloc (World.alloc w _) _ = w1;generalize hm : w.heap.size = m;intro H0;go_loopg [10] n (fun k idx wr => ∃ i : Nat,idx = I (i : Int) ∧ Hid (i ≤ n ∧ k = n - i) ∧ Hid (FindAt wr kb m g i B ∧ Only [] w wr))
 case atStart => exact ⟨0,rfl,⟨by omega,rfl⟩,H0.out.1,H0.out.2.1⟩
 case round =>
  obtain ⟨i,rfl,H1,HF⟩ := hrel;have HM : Hid (w.heap.size = m) := hm;clear hm;have hn := HB.out.2.2.2;by_cases hi : i < n
  ·have hil : (i : Int) < (n : Int) := by omega
   obtain ⟨ha,hO⟩ : a = some (Y g 0) ∧ OwnB wr g n B := by
    rcases (HB.out.1.only HF.out.2 (by simp)) with q | q
    ·omega
    ·exact q
   subst ha;have d0 := hO.cell hi (show 0 < 17 by omega);simp only [bc,Nat.add_zero] at d0;have HO : Hid (OwnB wr g n B) := hO;obtain ⟨hkb,D,hown,hbk⟩ := HF.out.1;have hk0 : wr.cell? (Y kb 0) = some (.map (some m)) := by simp [World.cell?,hkb]
   obtain ⟨wu,hrun,hown2,hturn⟩ := (World.ownsMap.drew hown).store intKeyS Tryz.underlying197 (by unfold maxLen; omega) (keyIsS (HB.out.2.2.1 i hi)) (yg9 g i)
   have HU : Hid (FindAt wu kb m g (i + 1) B ∧ Only [m] wr wu) := by
    have om : Only [m] wr wu := (Only.refl [m] wr).drew.grown hturn.grown (fun k hk => by injection hk with hk; exact Or.inl (by simp [hk]));refine ⟨⟨?_,_,hown2,hbk.put (fun j hj e => ?_)⟩,om⟩
    ·rw [om.block kb (Array.getElem?_eq_some_iff.1 hkb).1 (by simp only [zrc]; exact H0.out.2.2.2.2)]; exact hkb
    ·exact absurd (HB.out.2.1 j i (by omega) hi e) (by omega)
   have hgm : g ≠ m := by
    rcases HB.out.1 with q | q
    ·omega
    ·have := q.2.lt; have := HM.out; omega
   have HK : Hid (∀ w',Only [m] wr w' → Only [m] wr w' ∧ w'.cell? (Y kb 0) = some (.map (some m)) ∧ w'.cell? (Y g (i * 17)) = some (I (B i).id)) := fun w' o => ⟨o,y03 o hk0 (by simp only [zrc]; exact H0.out.2.2.2.2),y03 o d0 (by simp only [zrc]; exact hgm)⟩;clear hown hbk hown2 hturn hO hkb d0 hk0;go_wp2_with fail
   refine wp_region_held_drew (S := (fun w' => Only [m] wr w' ∧ w'.cell? (Y kb 0) = some (.map (some m)) ∧ w'.cell? (Y g (i * 17)) = some (I (B i).id))) (by kernel_rfl) ?_ (fun hJ1 => ?_)
   ·exact HK.out _ (Only.refl _ _).drew
   refine tkU 0 (h:=tkU 1 (h:=tkU 2 (h:=tkV 3 ?_)));try simp only [zP]
   refine tkU 4 (h:=tkU 5 (h:=tkU 6 (h:=tkV 7 ?_)));try simp only [zP]
   refine tkV 8 ?_;try simp only [zP]
   refine rdW 9 rfl fun K hK => ?_;simp only [zQ];go_simp;skip;try go_wp2_with fail
   refine hK.out _ _ ?_ fun hJ2 => ?_
   ·exact HK.out _ HU.out.2
   clear hK K hJ1;try simp only [zP]
   refine wpAnyH_done (by kernel_rfl) ?_ _;clear hJ2 HK hrun;go_wp2_with fail
   go_roundg (n - (i + 1))
   case measure => have := H1.out.2; omega
   case rel => exact ⟨i + 1,by go_num,⟨by omega,rfl⟩,HU.out.1,HF.out.2.then HU.out.2 (fun b hb => by simp only [zrc] at hb; subst hb; exact Or.inr (Nat.le_of_eq HM.out))⟩
  ·have hil : ¬ (i : Int) < (n : Int) := by omega
   obtain rfl : i = n := by have := H1.out.1; omega
   go_wp2_with fail
   go_ret
   exact ⟨kb,m,rfl,HF.out.1,HF.out.2,by have := HM.out; have := H0.out.2.2.1; omega,by have := HM.out; omega⟩
end Go.Proofs.YtbenlgandjjopaaGreatDoor
