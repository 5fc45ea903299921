/- . -/
import Derived.Test.YtbenlgandjjopaaGreatDoorN15
open List renaming getElem?_cons_succ → zqh,getElem?_cons_zero → zqi
open Go.Value renaming int → J
open Go.IntKind renaming i64 → U
open Go.World renaming frozen?_setCell → zrb
open List renaming mem_singleton → zrc
namespace Go.Proofs.YtbenlgandjjopaaGreatDoor
set_option maxRecDepth 100000
set_option maxHeartbeats 8000000
open Go.ChangeShapes Go.WideShapes Go.ChangeAt Go.RowKit
set_option linter.unusedVariables false
set_option linter.unusedSimpArgs false
variable {w w1 w' wr : World} {kl g n b0 kx i b k : Nat} {bo ru ro x y z al dp : Int} {C B : Nat → Bd} {v : V3} {a : Option Addr} {ms : List Mt}
def FrS3 (w : World) (b0 : Nat) (w' : World) : Prop :=
 Kept w w' ∧
 w'.cell? ⟨b0,0,none⟩ = some (cellV w' ⟨b0,0,none⟩) ∧
 w'.cell? ⟨b0,1,none⟩ = some (cellV w' ⟨b0,1,none⟩) ∧
 w'.cell? ⟨b0,2,none⟩ = some (cellV w' ⟨b0,2,none⟩) ∧
 w'.frozen? ⟨b0,0,none⟩ = false ∧
 w'.frozen? ⟨b0,1,none⟩ = false ∧
 w'.frozen? ⟨b0,2,none⟩ = false
theorem FrS3.step {w2 : World} (k : Kept w1 w2) (h : FrS3 w b0 w1) : FrS3 w b0 w2 := by
 obtain ⟨h0,h1,h2,h3,h4,h5,h6⟩ := h;exact ⟨h0.trans k,y06 k h1,y06 k h2,y06 k h3,y01 k h4,y01 k h5,y01 k h6⟩
theorem FrS3.drew {w w1 : World} {b0 : Nat} (h : FrS3 w b0 w1) : FrS3 w b0 w1.drew := h.step kd
theorem FrS3.put (i : Nat) (v : Value) (ho : w.heap.size ≤ b0)  (h : FrS3 w b0 w1) : FrS3 w b0 (w1.setCell (Y b0 i) v) := by
 obtain ⟨h0,h1,h2,h3,h4,h5,h6⟩ := h;exact ⟨h0.setCell (p := Y b0 i) ho v,y04 h1,y04 h2,y04 h3,(zrb _ _ _ _).trans h4,(zrb _ _ _ _).trans h5,(zrb _ _ _ _).trans h6⟩
def minX (a b : Int) : Int := if b < a then b else a
def relX (p q : Bd) : V3 := ⟨sub q.vx p.vx,sub q.vy p.vy,sub q.vz p.vz⟩
def dotX (a b : V3) : Int := dot a.x a.y a.z b.x b.y b.z
def sideX (a w : V3) : V3 := ⟨sub a.x (mul w.x (dotX a w)),sub a.y (mul w.y (dotX a w)),sub a.z (mul w.z (dotX a w))⟩
def longX (a : V3) : Int := long a.x a.y a.z
def unitX (a : V3) : V3 := ⟨unitPart (longX a) 0 a.x,unitPart (longX a) 65536 a.y,unitPart (longX a) 0 a.z⟩
def hitX (B : Nat → Bd) (i k : Nat) (x y al : Int) (v : V3) (bo ru : Int) : Nat → Bd :=
 let n := dotX (relX (B i) (B k)) v
 if 0 ≤ n then B else
  let j := div (mul (-n) (65536 + bo)) al
  let B1 := giveX B i k x y v.x v.y v.z j
  let s := sideX (relX (B1 i) (B1 k)) v
  if longX s = 0 then B1 else
   giveX B1 i k x y (unitX s).x (unitX s).y (unitX s).z (-(minX (mul j ru) (div (longX s) al)))
theorem dot_in (a b c d e f : Int) : -70368744177664 ≤ dot a b c d e f ∧ dot a b c d e f ≤ 70368744177664 := ⟨y1a _,y19 _⟩
theorem yk1 (a b : Int) : -70368744177664 ≤ div a b ∧ div a b ≤ 70368744177664 := by
 unfold div endless;have h1 := y1a ((65536 * cut a).tdiv (cut b));have h2 := y19 ((65536 * cut a).tdiv (cut b));split
 ·split
  ·omega
  ·split <;> omega
 ·omega
theorem yiq (a b : Int) : -70368744177664 ≤ mul a b ∧ mul a b ≤ 70368744177664 := ⟨y1a _,y19 _⟩
def WayAt (kx kv : Nat) (v : V3) (vx vy vz : Int) (w' : World) : Prop := w'.cell? ⟨kx,5,none⟩ = some (J U v.x) ∧ w'.cell? ⟨kx,6,none⟩ = some (J U v.y) ∧ w'.cell? ⟨kx,7,none⟩ = some (J U v.z) ∧ w'.cell? ⟨kv,0,none⟩ = some (J U vx) ∧ w'.cell? ⟨kv,1,none⟩ = some (J U vy) ∧ w'.cell? ⟨kv,2,none⟩ = some (J U vz)
theorem WayAt.step {kv : Nat} {vx vy vz : Int} (h : WayAt kx kv v vx vy vz w) (k : Kept w w') : WayAt kx kv v vx vy vz w' := ⟨y00 k h.1,y00 k h.2.1,y00 k h.2.2.1,y00 k h.2.2.2.1,y00 k h.2.2.2.2.1,y00 k h.2.2.2.2.2⟩
def LawAt (w : World) (kl : Nat) (bo ru ro : Int) : Prop := w.heap[kl]? = some (.cells #[J U bo,J U ru,J U ro] 25)
theorem LawAt.off (h : LawAt w b x y z) (j : Nat) : w.cell? (Y b j) = (#[I x,I y,I z] : Array Value)[j]? := by
 unfold LawAt at h; simp [World.cell?,h]
theorem LawAt.only {D : List Nat} (h : LawAt w b x y z) (o : Only D w w') (s : b ∉ D) : LawAt w' b x y z := (o.block b (Array.getElem?_eq_some_iff.1 h).1 s).trans h
structure HW (w : World) (kx kl g n i k : Nat) (x y al : Int) (v : V3) (dp bo ru ro : Int) (B : Nat → Bd) (wr : World) : Prop where
 own : OwnB wr g n B
 mt : MtAt wr kx g i k x y al v dp
 lw : LawAt wr kl bo ru ro
 only : Only [g] w wr
 nx : kx ≠ g
 nl : kl ≠ g
theorem HW.keep (h : HW w kx kl g n i k x y al v dp bo ru ro B wr) (q : Kept wr w') : HW w kx kl g n i k x y al v dp bo ru ro B w' :=
 ⟨h.own.only (Only.of_kept (D := []) q) (by simp),h.mt.only (Only.of_kept (D := []) q) (by simp),h.lw.only (Only.of_kept (D := []) q) (by simp),h.only.trans (Only.of_kept q),h.nx,h.nl⟩
theorem HW.turn (h : HW w kx kl g n i k x y al v dp bo ru ro B wr) (hO : OwnB w' g n C) (o : Only [g] wr w') : HW w kx kl g n i k x y al v dp bo ru ro C w' :=
 ⟨hO,h.mt.only o (by simp only [zrc]; exact h.nx),h.lw.only o (by simp only [zrc]; exact h.nl),h.only.trans o,h.nx,h.nl⟩
theorem yj4 (g n i k : Nat) (x y al : Int) (v : V3) (dp bo ru ro : Int) (B : Nat → Bd) (w : World) (h : OwnB w g n B) (hi : i < n) (hk : k < n) (hb0 : 0 ≤ bo) (hb1 : bo ≤ 65536) :
  Calls Tryz.prog 76 #[.agg #[.pointer (some (Y g (i * 17))),.pointer (some (Y g (k * 17))),I x,I y,I al,I v.x,I v.y,I v.z,I dp],.agg #[I bo,I ru,I ro]] w fun e w' => e = .returned (.tuple #[]) ∧ OwnB w' g n (hitX B i k x y al v bo ru) ∧ Only [g] w w' := by
 have HI : Hid (i < n ∧ k < n ∧ 0 ≤ bo ∧ bo ≤ 65536) := ⟨hi,hk,hb0,hb1⟩;have HO : Hid (OwnB w g n B) := h;clear h hi hk hb0 hb1;go_enter Tryz.func76,Tryz.ntmps76
 go_upto_region 1 with fail
 have H1 : Hid (HW w w.heap.size (w.heap.size + 1) g n i k x y al v dp bo ru ro B ((w.alloc (.cells #[.pointer (some (Y g (i * 17))),.pointer (some (Y g (k * 17))),I x,I y,I al,I v.x,I v.y,I v.z,I dp] 131)).alloc (.cells #[I bo,I ru,I ro] 25))) := by
  have hg := HO.out.lt;have hs : (w.alloc (.cells #[.pointer (some (Y g (i * 17))),.pointer (some (Y g (k * 17))),I x,I y,I al,I v.x,I v.y,I v.z,I dp] 131)).heap.size = w.heap.size + 1 := by simp
  have hb := (MapKept.heap_alloc (w.alloc (.cells #[.pointer (some (Y g (i * 17))),.pointer (some (Y g (k * 17))),I x,I y,I al,I v.x,I v.y,I v.z,I dp] 131)) (.cells #[I bo,I ru,I ro] 25)).1;rw [hs] at hb;have o : Only [] w ((w.alloc (.cells #[.pointer (some (Y g (i * 17))),.pointer (some (Y g (k * 17))),I x,I y,I al,I v.x,I v.y,I v.z,I dp] 131)).alloc (.cells #[I bo,I ru,I ro] 25)) := ((Only.refl [] w).alloc _).alloc _;exact ⟨HO.out.only o (by simp),MtAt.only (MapKept.heap_alloc w _).1 ((Only.refl [] _).alloc _) (by simp),hb,o.mono (by simp),by omega,by omega⟩
 clear HO;revert H1;generalize w.heap.size + 1 = kl;generalize w.heap.size = kx;generalize World.alloc (World.alloc w _) _ = w1;intro H1;obtain ⟨p,hp⟩ : ∃ p,p = B i := ⟨_,rfl⟩;obtain ⟨q,hq⟩ : ∃ q,q = B k := ⟨_,rfl⟩;have HPQ : Hid (p = B i ∧ q = B k) := ⟨hp,hq⟩;clear hp hq
 have HK : Hid (∀ w',Kept w1 w' → Kept w1 w' ∧ w'.cell? (Y kx 0) = some (.pointer (some (Y g (i * 17)))) ∧ w'.cell? (Y kx 1) = some (.pointer (some (Y g (k * 17)))) ∧ w'.cell? (Y kx 2) = some (I x) ∧ w'.cell? (Y kx 3) = some (I y) ∧ w'.cell? (Y kx 4) = some (I al) ∧ w'.cell? (Y kx 5) = some (I v.x) ∧ w'.cell? (Y kx 6) = some (I v.y) ∧ w'.cell? (Y kx 7) = some (I v.z) ∧ w'.cell? (Y kx 8) = some (I dp)) := fun w' o => by
  have m := H1.out.mt.only (Only.of_kept (D := []) o) (by simp);exact ⟨o,m.off 0,m.off 1,m.off 2,m.off 3,m.off 4,m.off 5,m.off 6,m.off 7,m.off 8⟩
 refine wp_region_held_drew (S := (fun w' => Kept w1 w' ∧ w'.cell? (Y kx 0) = some (.pointer (some (Y g (i * 17)))) ∧ w'.cell? (Y kx 1) = some (.pointer (some (Y g (k * 17)))) ∧ Zc w' kx 2 x ∧ Zc w' kx 3 y ∧ Zc w' kx 4 al ∧ Zc w' kx 5 v.x ∧ Zc w' kx 6 v.y ∧ Zc w' kx 7 v.z ∧ Zc w' kx 8 dp)) (by kernel_rfl) ?_ (fun hJ1 => ?_)
 ·exact HK.out _ kd
 refine tkU 0 (h:=tkU 2 (h:=tkV 3 ?_));try simp only [zP]
 refine rdW 1 rfl fun K hK => ?_;simp only [zQ];go_simp
 (go_at_call 117; refine (y8e g n i k x y al v dp B p q _ (H1.out.own.only (Only.refl [] w1).drew (by simp)) HI.out.1 HI.out.2.1 HPQ.out.1 HPQ.out.2).mono ?_; rintro e w2 ⟨rfl,k2⟩)
 try go_wp2_with fail
 refine hK.out _ _ ?_ fun hJ2 => ?_
 ·exact HK.out _ ((Kept.refl w1).drew.trans k2)
 clear hK K hJ1;try simp only [zP]
 refine rdW 4 rfl fun K hK => ?_;simp only [zQ];go_simp
 (go_at_call 116; refine (y5w _ _ _ _ _ _ _).mono ?_; rintro e w3 ⟨rfl,k3⟩)
 try go_wp2_with fail
 refine hK.out _ _ ?_ fun hJ3 => ?_
 ·exact HK.out _ (((Kept.refl w1).drew.trans k2).trans k3)
 clear hK K hJ2;try simp only [zP]
 refine tkV 5 ?_;try simp only [zP]
 refine wpAnyH_done (by kernel_rfl) ?_ _;have H3 : Hid (HW w kx kl g n i k x y al v dp bo ru ro B w3) := H1.out.keep (((Kept.refl w1).drew.trans k2).trans k3);clear hJ3 HK k2 k3 H1;have HN : Hid (dotX (relX p q) v = dot (sub q.vx p.vx) (sub q.vy p.vy) (sub q.vz p.vz) v.x v.y v.z) := rfl;have hd := dot_in (sub q.vx p.vx) (sub q.vy p.vy) (sub q.vz p.vz) v.x v.y v.z;generalize dot (sub q.vx p.vx) (sub q.vy p.vy) (sub q.vz p.vz) v.x v.y v.z = nn at HN hd ⊢;by_cases hn : 0 ≤ nn
 ·have HE : Hid (hitX B i k x y al v bo ru = B) := by
   show hitX B i k x y al v bo ru = B;unfold hitX;rw [← HPQ.out.1,← HPQ.out.2,HN.out,if_pos hn]
  go_wp2_with fail
  refine bodyPost_ret (results_none rfl _ _ _) rfl ?_;exact ⟨rfl,by rw [HE.out]; exact H3.out.own,H3.out.only⟩
 ·have hneg : IntKind.i64.wrap (-nn) = -nn := by rw [IntKind.wrap_i64]; omega
  have hbb : IntKind.i64.wrap (65536 + bo) = 65536 + bo := by have := HI.out.2.2; rw [IntKind.wrap_i64]; omega
  go_upto_region 3 with fail
  have HK : Hid (∀ w',Kept w3 w' → Kept w3 w' ∧ w'.cell? (Y kl 0) = some (I bo) ∧ w'.cell? (Y kx 4) = some (I al)) := fun w' o => ⟨o,y00 o (H3.out.lw.off 0),y00 o (H3.out.mt.off 4)⟩;refine wp_region_held_drew (S := (fun w' => Kept w3 w' ∧ Zc w' kl 0 bo ∧ Zc w' kx 4 al)) (by kernel_rfl) ?_ (fun hJ1 => ?_)
  ·exact HK.out _ kd
  refine tkV 0 ?_;try simp only [zP]
  refine tkW (v := I (-nn)) 1 rfl ?_ (by intro w'' hSw; (try dsimp only at hSw); simp only [zQ]; (go_simp <;> rfl));try simp only [zP]
  refine tkU 2 (h:=tkV 3 ?_);try simp only [zP]
  refine tkW (v := I (65536 + bo)) 4 rfl ?_ (by intro w'' hSw; (try dsimp only at hSw); simp only [zQ]; (go_simp <;> rfl));try simp only [zP]
  refine tkU 6 (h:=tkV 7 ?_);try simp only [zP]
  refine rdW 5 rfl fun K hK => ?_;simp only [zQ];go_simp
  (go_at_call 119; refine (y3d _ _ _).mono ?_; rintro e w4 ⟨rfl,k4⟩)
  try go_wp2_with fail
  refine hK.out _ _ ?_ fun hJ2 => ?_
  ·exact HK.out _ ((Kept.refl w3).drew.trans k4)
  clear hK K hJ1;try simp only [zP]
  refine rdW 8 rfl fun K hK => ?_;simp only [zQ];go_simp
  (go_at_call 118; refine (y4e _ _ _).mono ?_; rintro e w5 ⟨rfl,k5⟩)
  try go_wp2_with fail
  refine hK.out _ _ ?_ fun hJ3 => ?_
  ·exact HK.out _ (((Kept.refl w3).drew.trans k4).trans k5)
  clear hK K hJ2;try simp only [zP]
  refine tkV 9 ?_;try simp only [zP]
  refine wpAnyH_done (by kernel_rfl) ?_ _;have H5 : Hid (HW w kx kl g n i k x y al v dp bo ru ro B w5) := H3.out.keep (((Kept.refl w3).drew.trans k4).trans k5);clear hJ3 HK k4 k5 H3 hneg hbb;have HJ : Hid (div (mul (-dotX (relX p q) v) (65536 + bo)) al = div (mul (-nn) (65536 + bo)) al ∧ ¬ 0 ≤ nn) := by rw [HN.out]; exact ⟨rfl,by omega⟩
  clear hn hd;generalize div (mul (-nn) (65536 + bo)) al = jj at HJ ⊢;have m5 := H5.out.mt;have q0 := m5.off 0; have q1 := m5.off 1; have q2 := m5.off 2; have q3 := m5.off 3; have q4 := m5.off 4; have q5 := m5.off 5; have q6 := m5.off 6; have q7 := m5.off 7; have q8 := m5.off 8;simp only [zR] at q0 q1 q2 q3 q4 q5 q6 q7 q8;clear m5;go_wp2_with fail
  refine (show Calls Tryz.prog 120 #[.agg #[.pointer (some (Y g (i * 17))),.pointer (some (Y g (k * 17))),I x,I y,I al,I v.x,I v.y,I v.z,I dp],.agg #[I v.x,I v.y,I v.z],I jj] w5 _ from ya9 g n i k x y al v dp v.x v.y v.z jj B w5 H5.out.own HI.out.1 HI.out.2.1).mono ?_;rintro e w6 ⟨rfl,hO6,o6⟩;obtain ⟨B1,hB1⟩ : ∃ B1,B1 = giveX B i k x y v.x v.y v.z jj := ⟨_,rfl⟩;rw [← hB1] at hO6;have HB1 : Hid (B1 = giveX B i k x y v.x v.y v.z jj) := hB1;have H6 : Hid (HW w kx kl g n i k x y al v dp bo ru ro B1 w6) := H5.out.turn hO6 o6;clear hB1 hO6 o6 H5 q0 q1 q2 q3 q4 q5 q6 q7 q8;obtain ⟨p1,hp⟩ : ∃ p,p = B1 i := ⟨_,rfl⟩;obtain ⟨q1',hq⟩ : ∃ q,q = B1 k := ⟨_,rfl⟩;have HPQ1 : Hid (p1 = B1 i ∧ q1' = B1 k) := ⟨hp,hq⟩;clear hp hq;have m5 := H6.out.mt;have q0 := m5.off 0; have q1 := m5.off 1; have q2 := m5.off 2; have q3 := m5.off 3; have q4 := m5.off 4; have q5 := m5.off 5; have q6 := m5.off 6; have q7 := m5.off 7; have q8 := m5.off 8;simp only [zR] at q0 q1 q2 q3 q4 q5 q6 q7 q8;clear m5;go_wp2_with fail
  refine (show Calls Tryz.prog 117 #[.agg #[.pointer (some (Y g (i * 17))),.pointer (some (Y g (k * 17))),I x,I y,I al,I v.x,I v.y,I v.z,I dp]] w6 _ from y8e g n i k x y al v dp B1 p1 q1' w6 H6.out.own HI.out.1 HI.out.2.1 HPQ1.out.1 HPQ1.out.2).mono ?_;rintro e w7 ⟨rfl,k7⟩;clear q0 q1 q2 q3 q4 q5 q6 q7 q8;have H7 : Hid (HW w kx kl g n i k x y al v dp bo ru ro B1 w7) := H6.out.keep k7;clear k7 H6;have HV : Hid (relX p1 q1' = ⟨sub q1'.vx p1.vx,sub q1'.vy p1.vy,sub q1'.vz p1.vz⟩) := rfl;generalize sub q1'.vx p1.vx = vx at HV ⊢;generalize sub q1'.vy p1.vy = vy at HV ⊢;generalize sub q1'.vz p1.vz = vz at HV ⊢;go_upto_region 6 with fail
  have H8 : Hid (HW w kx kl g n i k x y al v dp bo ru ro B1 (w7.alloc (.cells #[I vx,I vy,I vz] 23)) ∧ VecAt (w7.alloc (.cells #[I vx,I vy,I vz] 23)) w7.heap.size vx vy vz ∧ (w7.heap.size ≠ g)) := ⟨H7.out.keep ((Kept.refl w7).alloc _ _),(MapKept.heap_alloc w7 _).1,by have := H7.out.own.lt; omega⟩;clear H7;revert H8;generalize w7.heap.size = kv;generalize World.alloc w7 _ = w8;intro H8
  have HD : Hid (dotX (relX p1 q1') v = dot vx vy vz v.x v.y v.z ∧ sideX (relX p1 q1') v = ⟨sub vx (mul v.x (dot vx vy vz v.x v.y v.z)),sub vy (mul v.y (dot vx vy vz v.x v.y v.z)),sub vz (mul v.z (dot vx vy vz v.x v.y v.z))⟩) := by
   rw [HV.out]; exact ⟨rfl,rfl⟩
  generalize hdd : dot vx vy vz v.x v.y v.z = dd at HD;have HDD : Hid (dot vx vy vz v.x v.y v.z = dd) := hdd;clear hdd;have HA : WayAt kx kv v vx vy vz w8 := ⟨H8.out.1.mt.off 5,H8.out.1.mt.off 6,H8.out.1.mt.off 7,H8.out.2.1.off 0,H8.out.2.1.off 1,H8.out.2.1.off 2⟩;go_cut [7] from 32 to 58 (fun s7 wc => ∃ r,s7 = .pointer (some (Y r 0)) ∧ Kept w8 wc ∧ w8.heap.size ≤ r ∧ wc.cell? (Y r 0) = some (I (sub vx (mul v.x dd))) ∧ wc.cell? (Y r 1) = some (I (sub vy (mul v.y dd))) ∧ wc.cell? (Y r 2) = some (I (sub vz (mul v.z dd))))
  case first =>
   as_aux_lemma =>
    refine wp_region_held_drew (S := fun w' => Kept w8 w' ∧ (Zc w' kx 5 v.x ∧ Zc w' kx 6 v.y ∧ Zc w' kx 7 v.z ∧ Zc w' kv 0 vx ∧ Zc w' kv 1 vy ∧ Zc w' kv 2 vz)) (by kernel_rfl) ?_ (fun hH0 => ?_)
    ·exact ⟨kd,HA.step kd⟩
    refine tkU 0 (h:=tkU 1 (h:=tkU 2 (h:=tkV 3 ?_)));try simp only [zP]
    refine tkU 4 (h:=tkV 5 ?_);try simp only [zP]
    refine wpAnyH_ready (rs := [6,9]) (by kernel_rfl) (by simp) ?_;refine AllReadyH.cons rfl (fun K hK => ?_) (AllReadyH.cons rfl (fun K hK => ?_) AllReadyH.nil)
    ·rw [if_pos (by rfl)]
     simp only [zQ];go_simp
     (go_at_call 116; refine (y5w _ _ _ _ _ _ _).mono ?_; rintro e wc1 ⟨rfl,kc1⟩; simp only [HDD.out])
     try go_wp2_with fail
     refine hK.out _ _ ?_ fun hH1 => ?_
     ·exact ⟨hH0.1.trans kc1,HA.step (hH0.1.trans kc1)⟩
     clear hK K hH0;try simp only [zP]
     refine wpAnyH_ready (rs := [7,9]) (by kernel_rfl) (by simp) ?_;refine AllReadyH.cons rfl (fun K hK => ?_) (AllReadyH.cons rfl (fun K hK => ?_) AllReadyH.nil)
     ·rw [if_pos (by rfl)]
      simp only [zQ];go_simp
      (go_at_call 121; refine (y30 _ _ _ _ _).mono ?_; rintro e wc2 ⟨rfl,kc2⟩)
      try go_wp2_with fail
      refine hK.out _ _ ?_ fun hH2 => ?_
      ·exact ⟨hH1.1.trans kc2,HA.step (hH1.1.trans kc2)⟩
      clear hK K hH1;try simp only [zP]
      refine wpAnyH_ready (rs := [8,9]) (by kernel_rfl) (by simp) ?_;refine AllReadyH.cons rfl (fun K hK => ?_) (AllReadyH.cons rfl (fun K hK => ?_) AllReadyH.nil)
      ·rw [if_pos (by rfl)]
       simp only [zQ];go_simp
       (go_at_call 96; refine (y0o _ _ _ _ _ _ _).mono ?_; rintro e wc3 ⟨rfl,kc3⟩)
       try go_wp2_with fail
       refine hK.out _ _ ?_ fun hH3 => ?_
       ·exact ⟨hH2.1.trans kc3,HA.step (hH2.1.trans kc3)⟩
       clear hK K hH2;try simp only [zP]
       refine rdW 9 rfl fun K hK => ?_;simp only [zQ];go_simp;refine hK.out _ _ ?_ fun hH4 => ?_
       ·exact ⟨hH3.1.alloc _ _,HA.step (hH3.1.alloc _ _)⟩
       have hp : w8.heap.size ≤ wc3.heap.size := Nat.le_trans hH3.1.below.size (Nat.le_of_eq (by simp));have hP : FrS3 w8 (wc3.heap.size) (wc3.alloc (.cells #[I 0,I 0,I 0] 23)) := by refine ⟨hH3.1.alloc _ _,y02 (v := I 0) ?_,y02 (v := I 0) ?_,y02 (v := I 0) ?_,?_,?_,?_⟩ <;> go_simp
       clear hK K hH3;try simp only [zP]
       generalize (wc3.alloc (.cells #[I 0,I 0,I 0] 23)) = wz5 at hH4 hP ⊢;have hP0 := hP;obtain ⟨_,cp0,cp1,cp2,fp0,fp1,fp2⟩ := hP0;refine rdW 10 rfl fun K hK => ?_;simp only [zQ];go_simp;refine hK.out _ _ ?_ fun hS1 => ?_
       ·exact ⟨y07 hH4.1 hp _ _ _,HA.step (y07 hH4.1 hp _ _ _)⟩
       clear hK K;try simp only [zP]
       refine wpAnyH_done (by kernel_rfl) ?_ _;obtain ⟨s0,s1,s2⟩ := y0b (v0 := I (sub vx (mul v.x dd))) (v1 := I (sub vy (mul v.y dd))) (v2 := I (sub vz (mul v.z dd))) cp0 cp1 cp2;go_wp2_with fail
       go_meet
       case rel => exact ⟨_,rfl,hS1.1,hp,s0,s1,s2⟩
      ·rw [if_pos (by rfl)]
       simp only [zQ];go_simp;refine hK.out _ _ ?_ fun hH6 => ?_
       ·exact ⟨hH2.1.alloc _ _,HA.step (hH2.1.alloc _ _)⟩
       have hp : w8.heap.size ≤ wc2.heap.size := Nat.le_trans hH2.1.below.size (Nat.le_of_eq (by simp));have hP : FrS3 w8 (wc2.heap.size) (wc2.alloc (.cells #[I 0,I 0,I 0] 23)) := by refine ⟨hH2.1.alloc _ _,y02 (v := I 0) ?_,y02 (v := I 0) ?_,y02 (v := I 0) ?_,?_,?_,?_⟩ <;> go_simp
       clear hK K hH2;try simp only [zP]
       refine rdW 8 rfl fun K hK => ?_;simp only [zQ];go_simp
       (go_at_call 96; refine (y0o _ _ _ _ _ _ _).mono ?_; rintro e wc7 ⟨rfl,kc7⟩)
       try go_wp2_with fail
       refine hK.out _ _ ?_ fun hH7 => ?_
       ·exact ⟨hH6.1.trans kc7,HA.step (hH6.1.trans kc7)⟩
       replace hP := hP.step kc7;clear hK K hH6;try simp only [zP]
       have hP0 := hP;obtain ⟨_,cp0,cp1,cp2,fp0,fp1,fp2⟩ := hP0;refine rdW 10 rfl fun K hK => ?_;simp only [zQ];go_simp;refine hK.out _ _ ?_ fun hS1 => ?_
       ·exact ⟨y07 hH7.1 hp _ _ _,HA.step (y07 hH7.1 hp _ _ _)⟩
       clear hK K;try simp only [zP]
       refine wpAnyH_done (by kernel_rfl) ?_ _;obtain ⟨s0,s1,s2⟩ := y0b (v0 := I (sub vx (mul v.x dd))) (v1 := I (sub vy (mul v.y dd))) (v2 := I (sub vz (mul v.z dd))) cp0 cp1 cp2;go_wp2_with fail
       go_meet
       case rel => exact ⟨_,rfl,hS1.1,hp,s0,s1,s2⟩
     ·rw [if_pos (by rfl)]
      simp only [zQ];go_simp;refine hK.out _ _ ?_ fun hH8 => ?_
      ·exact ⟨hH1.1.alloc _ _,HA.step (hH1.1.alloc _ _)⟩
      have hp : w8.heap.size ≤ wc1.heap.size := Nat.le_trans hH1.1.below.size (Nat.le_of_eq (by simp));have hP : FrS3 w8 (wc1.heap.size) (wc1.alloc (.cells #[I 0,I 0,I 0] 23)) := by refine ⟨hH1.1.alloc _ _,y02 (v := I 0) ?_,y02 (v := I 0) ?_,y02 (v := I 0) ?_,?_,?_,?_⟩ <;> go_simp
      clear hK K hH1;try simp only [zP]
      refine rdW 7 rfl fun K hK => ?_;simp only [zQ];go_simp
      (go_at_call 121; refine (y30 _ _ _ _ _).mono ?_; rintro e wc9 ⟨rfl,kc9⟩)
      try go_wp2_with fail
      refine hK.out _ _ ?_ fun hH9 => ?_
      ·exact ⟨hH8.1.trans kc9,HA.step (hH8.1.trans kc9)⟩
      replace hP := hP.step kc9;clear hK K hH8;try simp only [zP]
      refine rdW 8 rfl fun K hK => ?_;simp only [zQ];go_simp
      (go_at_call 96; refine (y0o _ _ _ _ _ _ _).mono ?_; rintro e wc10 ⟨rfl,kc10⟩)
      try go_wp2_with fail
      refine hK.out _ _ ?_ fun hH10 => ?_
      ·exact ⟨hH9.1.trans kc10,HA.step (hH9.1.trans kc10)⟩
      replace hP := hP.step kc10;clear hK K hH9;try simp only [zP]
      have hP0 := hP;obtain ⟨_,cp0,cp1,cp2,fp0,fp1,fp2⟩ := hP0;refine rdW 10 rfl fun K hK => ?_;simp only [zQ];go_simp;refine hK.out _ _ ?_ fun hS1 => ?_
      ·exact ⟨y07 hH10.1 hp _ _ _,HA.step (y07 hH10.1 hp _ _ _)⟩
      clear hK K;try simp only [zP]
      refine wpAnyH_done (by kernel_rfl) ?_ _;obtain ⟨s0,s1,s2⟩ := y0b (v0 := I (sub vx (mul v.x dd))) (v1 := I (sub vy (mul v.y dd))) (v2 := I (sub vz (mul v.z dd))) cp0 cp1 cp2;go_wp2_with fail
      go_meet
      case rel => exact ⟨_,rfl,hS1.1,hp,s0,s1,s2⟩
    ·rw [if_pos (by rfl)]
     simp only [zQ];go_simp;refine hK.out _ _ ?_ fun hH11 => ?_
     ·exact ⟨hH0.1.alloc _ _,HA.step (hH0.1.alloc _ _)⟩
     have hp : w8.heap.size ≤ w8.heap.size := Nat.le_trans hH0.1.below.size (Nat.le_of_eq (by simp));have hP : FrS3 w8 (w8.heap.size) (w8.drew.alloc (.cells #[I 0,I 0,I 0] 23)) := by refine ⟨hH0.1.alloc _ _,y02 (v := I 0) ?_,y02 (v := I 0) ?_,y02 (v := I 0) ?_,?_,?_,?_⟩ <;> go_simp
     clear hK K hH0;try simp only [zP]
     refine rdW 6 rfl fun K hK => ?_;simp only [zQ];go_simp
     (go_at_call 116; refine (y5w _ _ _ _ _ _ _).mono ?_; rintro e wc12 ⟨rfl,kc12⟩; simp only [HDD.out])
     try go_wp2_with fail
     refine hK.out _ _ ?_ fun hH12 => ?_
     ·exact ⟨hH11.1.trans kc12,HA.step (hH11.1.trans kc12)⟩
     replace hP := hP.step kc12;clear hK K hH11;try simp only [zP]
     refine rdW 7 rfl fun K hK => ?_;simp only [zQ];go_simp
     (go_at_call 121; refine (y30 _ _ _ _ _).mono ?_; rintro e wc13 ⟨rfl,kc13⟩)
     try go_wp2_with fail
     refine hK.out _ _ ?_ fun hH13 => ?_
     ·exact ⟨hH12.1.trans kc13,HA.step (hH12.1.trans kc13)⟩
     replace hP := hP.step kc13;clear hK K hH12;try simp only [zP]
     refine rdW 8 rfl fun K hK => ?_;simp only [zQ];go_simp
     (go_at_call 96; refine (y0o _ _ _ _ _ _ _).mono ?_; rintro e wc14 ⟨rfl,kc14⟩)
     try go_wp2_with fail
     refine hK.out _ _ ?_ fun hH14 => ?_
     ·exact ⟨hH13.1.trans kc14,HA.step (hH13.1.trans kc14)⟩
     replace hP := hP.step kc14;clear hK K hH13;try simp only [zP]
     have hP0 := hP;obtain ⟨_,cp0,cp1,cp2,fp0,fp1,fp2⟩ := hP0;refine rdW 10 rfl fun K hK => ?_;simp only [zQ];go_simp;refine hK.out _ _ ?_ fun hS1 => ?_
     ·exact ⟨y07 hH14.1 hp _ _ _,HA.step (y07 hH14.1 hp _ _ _)⟩
     clear hK K;try simp only [zP]
     refine wpAnyH_done (by kernel_rfl) ?_ _;obtain ⟨s0,s1,s2⟩ := y0b (v0 := I (sub vx (mul v.x dd))) (v1 := I (sub vy (mul v.y dd))) (v2 := I (sub vz (mul v.z dd))) cp0 cp1 cp2;go_wp2_with fail
     go_meet
     case rel => exact ⟨_,rfl,hS1.1,hp,s0,s1,s2⟩
  case rest =>
   clear HA;obtain ⟨r,rfl,kc,hr,s0,s1,s2⟩ := hcut;have H9 : Hid (HW w kx kl g n i k x y al v dp bo ru ro B1 wc ∧ r ≠ g) := ⟨H8.out.1.keep kc,by have := H8.out.1.own.lt; omega⟩;clear kc hr H8;have HSD : Hid (sideX (relX p1 q1') v = ⟨sub vx (mul v.x dd),sub vy (mul v.y dd),sub vz (mul v.z dd)⟩) := HD.out.2;generalize sub vx (mul v.x dd) = sx at HSD s0;generalize sub vy (mul v.y dd) = sy at HSD s1;generalize sub vz (mul v.z dd) = sz at HSD s2;obtain ⟨w9,hw9⟩ : ∃ w9,w9 = wc := ⟨wc,rfl⟩;subst hw9;go_wp2_with fail
   refine (y3e sx sy sz _).mono ?_;rintro e w10 ⟨rfl,k10⟩;have H10 : Hid (HW w kx kl g n i k x y al v dp bo ru ro B1 w10 ∧ r ≠ g) := ⟨H9.out.1.keep k10,H9.out.2⟩;have z0 := y00 k10 s0;have z1 := y00 k10 s1;have z2 := y00 k10 s2;clear k10 s0 s1 s2 H9;have HLG : Hid (longX ⟨sx,sy,sz⟩ = long sx sy sz ∧ unitX ⟨sx,sy,sz⟩ = ⟨unitPart (long sx sy sz) 0 sx,unitPart (long sx sy sz) 65536 sy,unitPart (long sx sy sz) 0 sz⟩) := ⟨rfl,rfl⟩;have HUN : Hid (∀ w',Calls Tryz.prog 123 #[.agg #[I sx,I sy,I sz]] w' fun e w'' => e = .returned (.agg #[I (unitPart (long sx sy sz) 0 sx),I (unitPart (long sx sy sz) 65536 sy),I (unitPart (long sx sy sz) 0 sz)]) ∧ Kept w' w'') := fun w' => y9v sx sy sz w';generalize long sx sy sz = lg at HLG HUN;by_cases hl : lg = 0
   ·have HE : Hid (hitX B i k x y al v bo ru = B1) := by
     show hitX B i k x y al v bo ru = B1;unfold hitX;rw [← HPQ.out.1,← HPQ.out.2,HN.out,if_neg (by have := HJ.out.2; omega)];have hj := HJ.out.1;rw [HN.out] at hj;simp only [hj,← HB1.out,← HPQ1.out.1,← HPQ1.out.2,HSD.out,HLG.out.1,hl,if_true]
    have tl : (lg == 0) = true := by simpa using hl
    clear hl;go_wp2_with fail
    refine bodyPost_ret (results_none rfl _ _ _) rfl ?_;exact ⟨rfl,by rw [HE.out]; exact H10.out.1.own,H10.out.1.only⟩
   ·have HE : Hid (hitX B i k x y al v bo ru = giveX B1 i k x y (unitPart lg 0 sx) (unitPart lg 65536 sy) (unitPart lg 0 sz) (-(minX (mul jj ru) (div lg al)))) := by
     show hitX B i k x y al v bo ru = _;unfold hitX;rw [← HPQ.out.1,← HPQ.out.2,HN.out,if_neg (by have := HJ.out.2; omega)];have hj := HJ.out.1;rw [HN.out] at hj;simp only [hj,← HB1.out,← HPQ1.out.1,← HPQ1.out.2,HSD.out,HLG.out.1,HLG.out.2,hl,if_false]
    have tl : (lg == 0) = false := by simpa using hl
    have hmn : IntKind.i64.wrap (-(minX (mul jj ru) (div lg al))) = -(minX (mul jj ru) (div lg al)) := by
     have h1 := yiq jj ru;have h2 := yk1 lg al;unfold minX;rw [IntKind.wrap_i64];split <;> omega
    clear hl;go_upto_region 9 with fail
    as_aux_lemma =>
     have HK : Hid (∀ w',Only [g] w10 w' → Only [g] w10 w' ∧ (w'.cell? (Y kx 0) = some (.pointer (some (Y g (i * 17)))) ∧ w'.cell? (Y kx 1) = some (.pointer (some (Y g (k * 17)))) ∧ w'.cell? (Y kx 2) = some (I x) ∧ w'.cell? (Y kx 3) = some (I y) ∧ w'.cell? (Y kx 4) = some (I al) ∧ w'.cell? (Y kx 5) = some (I v.x) ∧ w'.cell? (Y kx 6) = some (I v.y) ∧ w'.cell? (Y kx 7) = some (I v.z) ∧ w'.cell? (Y kx 8) = some (I dp)) ∧ (w'.cell? (Y r 0) = some (I sx) ∧ w'.cell? (Y r 1) = some (I sy) ∧ w'.cell? (Y r 2) = some (I sz)) ∧ w'.cell? (Y kl 1) = some (I ru)) := fun w' o => by
      have m := H10.out.1.mt.only o (by simp only [zrc]; exact H10.out.1.nx);have l := H10.out.1.lw.only o (by simp only [zrc]; exact H10.out.1.nl);exact ⟨o,⟨m.off 0,m.off 1,m.off 2,m.off 3,m.off 4,m.off 5,m.off 6,m.off 7,m.off 8⟩,⟨y03 o z0 (by simp only [zrc]; exact H10.out.2),y03 o z1 (by simp only [zrc]; exact H10.out.2),y03 o z2 (by simp only [zrc]; exact H10.out.2)⟩,l.off 1⟩
     refine wp_region_held_drew (S := (fun w' => Only [g] w10 w' ∧ (w'.cell? (Y kx 0) = some (.pointer (some (Y g (i * 17)))) ∧ w'.cell? (Y kx 1) = some (.pointer (some (Y g (k * 17)))) ∧ Zc w' kx 2 x ∧ Zc w' kx 3 y ∧ Zc w' kx 4 al ∧ Zc w' kx 5 v.x ∧ Zc w' kx 6 v.y ∧ Zc w' kx 7 v.z ∧ Zc w' kx 8 dp) ∧ (Zc w' r 0 sx ∧ Zc w' r 1 sy ∧ Zc w' r 2 sz) ∧ Zc w' kl 1 ru)) (by kernel_rfl) ?_ (fun hJ1 => ?_)
     ·exact HK.out _ (Only.refl _ _).drew
     refine tkU 0 (h:=tkU 1 (h:=tkU 3 (h:=tkV 4 ?_)));try simp only [zP]
     refine tkU 5 (h:=tkU 7 (h:=tkU 8 (h:=tkV 9 ?_)));try simp only [zP]
     refine rdW 2 rfl fun K hK => ?_;simp only [zQ];go_simp
     (go_at_call 123; refine (HUN.out _).mono ?_; rintro e w11 ⟨rfl,k11⟩; have K11 : Hid (Kept w10 w11) := (Kept.refl w10).drew.trans k11; clear k11)
     try go_wp2_with fail
     refine hK.out _ _ ?_ fun hJ2 => ?_
     ·exact HK.out _ (Only.of_kept K11.out)
     clear hK K hJ1;try simp only [zP]
     refine rdW 6 rfl fun K hK => ?_;simp only [zQ];go_simp
     (go_at_call 119; refine (y3d _ _ _).mono ?_; rintro e w12 ⟨rfl,k12⟩; have K12 : Hid (Kept w10 w12) := K11.out.trans k12; clear k12)
     try go_wp2_with fail
     refine hK.out _ _ ?_ fun hJ3 => ?_
     ·exact HK.out _ (Only.of_kept K12.out)
     clear hK K hJ2;try simp only [zP]
     refine rdW 10 rfl fun K hK => ?_;simp only [zQ];go_simp
     (go_at_call 118; refine (y4e _ _ _).mono ?_; rintro e w13 ⟨rfl,k13⟩; have K13 : Hid (Kept w10 w13) := K12.out.trans k13; clear k13)
     try go_wp2_with fail
     refine hK.out _ _ ?_ fun hJ4 => ?_
     ·exact HK.out _ (Only.of_kept K13.out)
     clear hK K hJ3;try simp only [zP]
     refine tkW (v := I (minX (mul jj ru) (div lg al))) 11 rfl ?_ (by intro w'' hSw; (try dsimp only at hSw); simp only [zQ]; (go_simp <;> rfl));try simp only [zP]
     refine tkW (v := I (-(minX (mul jj ru) (div lg al)))) 12 rfl ?_ (by intro w'' hSw; (try dsimp only at hSw); simp only [zQ]; (go_simp <;> rfl));try simp only [zP]
     refine rdW 13 rfl fun K hK => ?_;simp only [zQ];go_simp
     (go_at_call 120; refine (ya9 g n i k x y al v dp _ _ _ _ B1 _ (H10.out.1.own.only (Only.of_kept (D := []) K13.out) (by simp)) HI.out.1 HI.out.2.1).mono ?_; rintro e w14 ⟨rfl,hO14,o14⟩; have H14 : Hid (OwnB w14 g n _ ∧ Only [g] w10 w14) := ⟨hO14,(Only.of_kept K13.out).trans o14⟩; clear hO14 o14)
     try go_wp2_with fail
     refine hK.out _ _ ?_ fun hJ5 => ?_
     ·exact HK.out _ H14.out.2
     clear hK K hJ4;try simp only [zP]
     refine wpAnyH_done (by kernel_rfl) ?_ _;go_wp2_with fail
     refine bodyPost_end (results_none rfl _ _ _) rfl ?_;exact ⟨rfl,by rw [HE.out]; exact H14.out.1,H10.out.1.only.trans H14.out.2⟩
def hitM (bo ru : Int) (B : Nat → Bd) (t : Mt) : Nat → Bd := hitX B t.i t.k t.x t.y t.all t.way bo ru
def iterM (bo ru : Int) (ms : List Mt) (B : Nat → Bd) : Nat → Nat → Bd
 | 0 => B
 | p + 1 => ms.foldl (hitM bo ru) (iterM bo ru ms B p)
def clampB (q : Bd) : Bd := spX q (cl 6553600 q.vx) (cl 6553600 q.vy) (cl 6553600 q.vz)
def clampTo (B : Nat → Bd) (p : Nat) : Nat → Bd := fun j => if j < p then clampB (B j) else B j
theorem y74 (B : Nat → Bd) (p : Nat) : clampTo B (p + 1) = upd (clampTo B p) p (clampB (B p)) := by
 funext j
 unfold clampTo upd;by_cases h : j = p
 ·subst h; simp
 ·by_cases h2 : j < p
  ·simp [h,h2,show j < p + 1 by omega]
  ·simp [h,h2,show ¬ j < p + 1 by omega]
theorem y9r (B : Nat → Bd) (p : Nat) : clampTo B p p = B p := by unfold clampTo; simp
def speedsM (n : Nat) (B : Nat → Bd) (T : Nat → Tc) (m : Nat) (bo ru ro : Int) : Nat → Bd :=
 if rightX bo ru ro = true then clampTo (iterM bo ru (meetsX n B T m) B ro.toNat) n else B
theorem y3s : bound 6553600 = 6553600 := by decide
structure SW (w w1 : World) (a : Option Addr) (g n kl : Nat) (bo ru ro : Int) (C : Nat → Bd) (v : Value) (ms : List Mt) (wr : World) : Prop where
 pw : PW w w1 a g n C v ms wr
 lw : LawAt wr kl bo ru ro
 nl : n ≠ 0 → kl ≠ g
theorem SW.keep {w w1 : World} {a : Option Addr} {g n kl : Nat} {bo ru ro : Int} {C : Nat → Bd} {v : Value} {ms : List Mt} {wr w' : World} (h : SW w w1 a g n kl bo ru ro C v ms wr) (o : Only [] wr w') : SW w w1 a g n kl bo ru ro C v ms w' := ⟨h.pw.keep o,h.lw.only o (by simp),h.nl⟩
theorem SW.turn {w w1 : World} {a : Option Addr} {g n kl : Nat} {bo ru ro : Int} {C D : Nat → Bd} {v : Value} {ms : List Mt} {wr w' : World} (h : SW w w1 a g n kl bo ru ro C v ms wr) (h0 : n ≠ 0) (hO : OwnB w' g n D) (o : Only [g] wr w') : SW w w1 a g n kl bo ru ro D v ms w' := by
 have ha : a = some (Y g 0) := by
  rcases h.pw.own with q | q
  ·exact absurd q h0
  ·exact q.1
 exact ⟨h.pw.turn h0 ha hO o,h.lw.only o (by simp only [zrc]; exact h.nl h0),h.nl⟩
theorem SW.there {v : Value} (h : SW w w1 a g n kl bo ru ro C v ms wr) (hi : i < n) : a = some (Y g 0) ∧ OwnB wr g n C := by
 rcases h.pw.own with q | q
 ·omega
 ·exact q
theorem y4f (a b : Option Addr) (n c m d : Nat) (B : Nat → Bd) (T : Nat → Tc) (bo ru ro : Int) (w : World) (hn : n ≤ 60) (hm : m ≤ 3600) (h : BodiesAt w a n B) (hs : SlArg a n c) (ht : TouchesAt w b m T) (hal : Alone n B) (hid : ∀ j,j < n → In64S (B j).id) :
  Calls Tryz.prog 47 #[.slice a n c,.slice b m d,.agg #[I bo,I ru,I ro]] w (OwnPost n (speedsM n B T m bo ru ro) w) := by
 have HB : Hid (BodiesAt w a n B ∧ SlArg a n c ∧ TouchesAt w b m T ∧ Alone n B ∧ (∀ j,j < n → In64S (B j).id) ∧ n ≤ 60 ∧ m ≤ 3600) := ⟨h,hs,ht,hal,hid,hn,hm⟩;clear h hs ht hal hid hn hm;go_enter Tryz.func47,Tryz.ntmps47
 go_wp2_with fail
 refine (yep a n c B _ (by have := HB.out.2.2.2.2.2.1; omega) (HB.out.1.only ((Only.refl [] w).alloc _)) HB.out.2.1).mono ?_;rintro e w1 ⟨a1,g,c1,rfl,hO,o1,hg,hsl0⟩;have HSL0 : Hid (SlArg a1 n c1) := hsl0;clear hsl0
 have H1 : Hid (OwnS w1 a1 g n B ∧ Only [] w w1 ∧ w.heap.size ≤ g ∧ LawAt w1 w.heap.size bo ru ro ∧ w.heap.size ≠ g) := by
  have hs : (w.alloc (.cells #[I bo,I ru,I ro] 25)).heap.size = w.heap.size + 1 := by simp
  rw [hs] at hg;exact ⟨hO,((Only.refl [] w).alloc _).trans o1,by omega,LawAt.only (MapKept.heap_alloc w _).1 o1 (by simp),by omega⟩
 have HGN : Hid (w.heap.size ≤ g) := H1.out.2.2.1;clear hO o1 hg;revert H1;generalize hkl : w.heap.size = kl;intro H1;have HKL : Hid (w.heap.size = kl) := hkl;clear hkl;have l0 := H1.out.2.2.2.1.off 0; have l1 := H1.out.2.2.2.1.off 1; have l2 := H1.out.2.2.2.1.off 2;simp only [zR] at l0 l1 l2;go_wp2_with fail
 refine (y58 bo ru ro _).mono ?_;rintro e w2 ⟨rfl,k2⟩;have H2 : Hid (OwnS w2 a1 g n B ∧ Only [] w w2 ∧ LawAt w2 kl bo ru ro) := ⟨H1.out.1.only (Only.of_kept (D := []) k2) (by simp),H1.out.2.1.trans (Only.of_kept k2),H1.out.2.2.2.1.only (Only.of_kept (D := []) k2) (by simp)⟩;clear k2 l0 l1 l2
 cases hrt : rightX bo ru ro with
 | false =>
  have HE : Hid (speedsM n B T m bo ru ro = B) := by show speedsM n B T m bo ru ro = B; unfold speedsM; rw [hrt]; rfl
  clear hrt;go_wp2_with fail
  go_ret
  exact ⟨a1,g,c1,rfl,by rw [HE.out]; exact H2.out.1,H2.out.2.1,HGN.out,HSL0.out⟩
 | true =>
  obtain ⟨R,hR,hR1,hb0,hb1⟩ : ∃ R : Nat,ro = R ∧ R ≤ 20 ∧ 0 ≤ bo ∧ bo ≤ 65536 := by
   unfold rightX shareX at hrt;simp only [Bool.and_eq_true,decide_eq_true_eq] at hrt;exact ⟨ro.toNat,by omega,by omega,by omega,by omega⟩
  have HE : Hid (speedsM n B T m bo ru ro = clampTo (iterM bo ru (meetsX n B T m) B R) n) := by
   show speedsM n B T m bo ru ro = _;unfold speedsM; rw [if_pos hrt,hR]; simp
  subst hR;have HRB : Hid (R ≤ 20 ∧ 0 ≤ bo ∧ bo ≤ 65536) := ⟨hR1,hb0,hb1⟩;clear hrt hR1 hb0 hb1;go_wp2_with fail
  refine (y55 a1 b g n c1 m d B T w2 HB.out.2.2.2.2.2.1 HB.out.2.2.2.2.2.2 H2.out.1 (HB.out.2.2.1.only H2.out.2.1) HB.out.2.2.2.1 HB.out.2.2.2.2.1).mono ?_;rintro e w3 ⟨v,rfl,hsl,o3,hv⟩;have HL : Hid ((∀ t ∈ meetsX n B T m,t.i < n ∧ t.k < n ∧ t.i ≠ t.k) ∧ (meetsX n B T m).length ≤ 3600) := ⟨fun t ht => y82 ht,Nat.le_trans (y4y n B T m) HB.out.2.2.2.2.2.2⟩;generalize meetsX n B T m = ms at HE HL hsl;obtain ⟨av,cv,rfl,hsh⟩ := hsl.shape
  have H3 : Hid (SW w w2 a1 g n kl bo ru R B (.slice av ms.length cv) ms w3) := by
   refine ⟨⟨H2.out.1.only o3 (by simp),hsl,H2.out.2.1.trans o3,by have := HKL.out; have := H1.out.2.2.1; omega,fun h0 x hx => ?_⟩,H2.out.2.2.only o3 (by simp),fun _ => H1.out.2.2.2.2⟩;rcases H2.out.1 with q | q
   ·exact absurd q h0
   ·have h1 := hv x hx
    have h2 := q.2.lt;omega
  clear hsl hsh o3 hv H1 H2;have l2 := H3.out.lw.off 2;simp only [zR] at l2;go_wp2_with fail
  clear l2;go_loopg [23] R (fun k idx wr => ∃ p : Nat,idx = I (p : Int) ∧ Hid (p ≤ R ∧ k = R - p) ∧ Hid (SW w w2 a1 g n kl bo ru R (iterM bo ru ms B p) (.slice av ms.length cv) ms wr))
  case atStart => exact ⟨0,rfl,⟨by omega,rfl⟩,H3⟩
  case round =>
   clear H3;obtain ⟨p,rfl,H4,HP⟩ := hrel;have hR20 := HRB.out.1;by_cases hp : p < R
   ·have hpl : (p : Int) < (R : Int) := by omega
    go_wp2_with fail
    go_loopg [27] ms.length (fun k idx wr => ∃ j : Nat,idx = I (j : Int) ∧ Hid (j ≤ ms.length ∧ k = ms.length - j) ∧ Hid (SW w w2 a1 g n kl bo ru R ((ms.take j).foldl (hitM bo ru) (iterM bo ru ms B p)) (.slice av ms.length cv) ms wr))
    case atStart => exact ⟨0,rfl,⟨by omega,rfl⟩,HP⟩
    case round =>
     clear HP;obtain ⟨j,rfl,H5,HP⟩ := hrel;have hl60 := HL.out.2;by_cases hj : j < ms.length
     ·have hjl : (j : Int) < (ms.length : Int) := by omega
      obtain ⟨a',c',ev,hsh⟩ := HP.out.pw.sl.shape;obtain ⟨bm,ha',hbm,hc⟩ := hsh j hj;injection ev with ev1 ev2 ev3
      rw [← ev1] at ha';subst ha'
      have htk : (ms.take (j + 1)).foldl (hitM bo ru) (iterM bo ru ms B p) = hitM bo ru ((ms.take j).foldl (hitM bo ru) (iterM bo ru ms B p)) ms[j] := by
       rw [List.take_add_one,List.getElem?_eq_getElem hj,Option.toList_some,List.foldl_append]; rfl
      have HJ := HL.out.1 ms[j] (List.getElem_mem hj);generalize ms[j] = t at hc htk HJ;have HE5 : Hid ((ms.take (j + 1)).foldl (hitM bo ru) (iterM bo ru ms B p) = hitM bo ru ((ms.take j).foldl (hitM bo ru) (iterM bo ru ms B p)) t ∧ t.i < n ∧ t.k < n) := ⟨htk,HJ.1,HJ.2.1⟩;have q0 := hc 0 (by omega); have q1 := hc 1 (by omega); have q2 := hc 2 (by omega); have q3 := hc 3 (by omega); have q4 := hc 4 (by omega); have q5 := hc 5 (by omega); have q6 := hc 6 (by omega); have q7 := hc 7 (by omega); have q8 := hc 8 (by omega);simp only [mtL,zqh,zqi,Nat.add_zero] at q0 q1 q2 q3 q4 q5 q6 q7 q8;clear hc htk HJ hsh ev1 ev2 ev3 hbm;generalize hC : (ms.take j).foldl (hitM bo ru) (iterM bo ru ms B p) = C at HP HE5;clear hC;go_upto_region 10 with fail
      have H6 : Hid (SW w w2 a1 g n kl bo ru R C (.slice (some (Y bm 0)) ms.length cv) ms (wr.alloc (.cells #[.pointer (some (Y g (t.i * 17))),.pointer (some (Y g (t.k * 17))),I t.x,I t.y,I t.all,I t.way.x,I t.way.y,I t.way.z,I t.deep] 131)) ∧ (wr.alloc (.cells #[.pointer (some (Y g (t.i * 17))),.pointer (some (Y g (t.k * 17))),I t.x,I t.y,I t.all,I t.way.x,I t.way.y,I t.way.z,I t.deep] 131)).heap[wr.heap.size]? = some (.cells #[.pointer (some (Y g (t.i * 17))),.pointer (some (Y g (t.k * 17))),I t.x,I t.y,I t.all,I t.way.x,I t.way.y,I t.way.z,I t.deep] 131)) := ⟨HP.out.keep ((Only.refl [] wr).alloc _),(MapKept.heap_alloc wr _).1⟩;clear q0 q1 q2 q3 q4 q5 q6 q7 q8;revert H6;generalize wr.heap.size = km;generalize World.alloc wr _ = w6;intro H6;have m5 : MtAt w6 km g t.i t.k t.x t.y t.all t.way t.deep := H6.out.2;have q0 := m5.off 0; have q1 := m5.off 1; have q2 := m5.off 2; have q3 := m5.off 3; have q4 := m5.off 4; have q5 := m5.off 5; have q6 := m5.off 6; have q7 := m5.off 7; have q8 := m5.off 8;have l0 := H6.out.1.lw.off 0; have l1 := H6.out.1.lw.off 1; have l2 := H6.out.1.lw.off 2;simp only [zR] at q0 q1 q2 q3 q4 q5 q6 q7 q8 l0 l1 l2;clear m5;go_wp2_with fail
      refine (show Calls Tryz.prog 76 #[.agg #[.pointer (some (Y g (t.i * 17))),.pointer (some (Y g (t.k * 17))),I t.x,I t.y,I t.all,I t.way.x,I t.way.y,I t.way.z,I t.deep],.agg #[I bo,I ru,I R]] w6 _ from yj4 g n t.i t.k t.x t.y t.all t.way t.deep bo ru R C w6 (H6.out.1.there HE5.out.2.1).2 HE5.out.2.1 HE5.out.2.2 HRB.out.2.1 HRB.out.2.2).mono ?_;rintro e w7 ⟨rfl,hO7,o7⟩;have H7 : Hid (SW w w2 a1 g n kl bo ru R (hitM bo ru C t) (.slice (some (Y bm 0)) ms.length cv) ms w7) := H6.out.1.turn (by have := HE5.out.2.1; omega) hO7 o7;clear hO7 o7 q0 q1 q2 q3 q4 q5 q6 q7 q8 l0 l1 l2 H6;go_wp2_with fail
      go_roundg (ms.length - (j + 1))
      case measure => have := H5.out.2; omega
      case rel => exact ⟨j + 1,by go_num,⟨by omega,rfl⟩,by rw [HE5.out.1]; exact H7⟩
     ·have hjl : ¬ (j : Int) < (ms.length : Int) := by omega
      have HF : Hid ((ms.take j).foldl (hitM bo ru) (iterM bo ru ms B p) = iterM bo ru ms B (p + 1)) := by
       show (ms.take j).foldl (hitM bo ru) (iterM bo ru ms B p) = _;rw [List.take_of_length_le (by omega)]; rfl
      go_wp2_with fail
      go_roundg (R - (p + 1))
      case measure => have := H4.out.2; omega
      case rel => exact ⟨p + 1,by go_num,⟨by omega,rfl⟩,by rw [← HF.out]; exact HP⟩
   ·have hpl : ¬ (p : Int) < (R : Int) := by omega
    obtain rfl : p = R := by have := H4.out.1; omega
    generalize hC : iterM bo ru ms B p = C at HP HE;clear hC;go_wp2_with fail
    go_loopg [38] n (fun k idx wr => ∃ j : Nat,idx = I (j : Int) ∧ Hid (j ≤ n ∧ k = n - j) ∧ Hid (SW w w2 a1 g n kl bo ru p (clampTo C j) (.slice av ms.length cv) ms wr))
    case atStart => exact ⟨0,rfl,⟨by omega,rfl⟩,HP⟩
    case round =>
     clear HP;obtain ⟨j,rfl,H5,HP⟩ := hrel;have hn30 := HB.out.2.2.2.2.2.1;by_cases hj : j < n
     ·have hjl : (j : Int) < (n : Int) := by omega
      obtain ⟨ha1,hO⟩ := HP.out.there hj;subst ha1;obtain ⟨q,hq⟩ : ∃ q,q = clampTo C j j := ⟨_,rfl⟩;have c9 := hO.cell hj (show 9 < 17 by omega); have c10 := hO.cell hj (show 10 < 17 by omega); have c11 := hO.cell hj (show 11 < 17 by omega);rw [← hq] at c9 c10 c11;simp only [bc] at c9 c10 c11;have HQ : Hid (q = C j ∧ q = clampTo C j j) := ⟨by rw [hq,y9r],hq⟩;have HOO : Hid (OwnB wr g n (clampTo C j)) := hO;clear hO hq;go_wp2_with fail
      refine (y28 _ _ _ _ _ (by decide)).mono ?_;rintro e w7 ⟨rfl,k7⟩;simp only [y3s];have e9 := y00 k7 c9; have e10 := y00 k7 c10; have e11 := y00 k7 c11;have f9 := y01 k7 (HOO.out.free (j * 17 + 9)); have f10 := y01 k7 (HOO.out.free (j * 17 + 10)); have f11 := y01 k7 (HOO.out.free (j * 17 + 11))
      have H8 : Hid (SW w w2 (some (Y g 0)) g n kl bo ru p (clampTo C (j + 1)) (.slice av ms.length cv) ms (((w7.setCell (Y g (j * 17 + 9)) (I (cl 6553600 q.vx))).setCell (Y g (j * 17 + 10)) (I (cl 6553600 q.vy))).setCell (Y g (j * 17 + 11)) (I (cl 6553600 q.vz)))) := by
       have h1 := (HOO.out.only (Only.of_kept (D := []) k7) (by simp)).putSp hj (cl 6553600 q.vx) (cl 6553600 q.vy) (cl 6553600 q.vz);rw [← HQ.out.2] at h1;rw [y74,← HQ.out.1];exact HP.out.turn (by omega) h1 ((((Only.of_kept k7).setCell (p := Y g (j * 17 + 9)) (Or.inl (by simp)) _).setCell (p := Y g (j * 17 + 10)) (Or.inl (by simp)) _).setCell (p := Y g (j * 17 + 11)) (Or.inl (by simp)) _)
      clear k7 c9 c10 c11;go_wp2_with fail
      go_roundg (n - (j + 1))
      case measure => have := H5.out.2; omega
      case rel => exact ⟨j + 1,by go_num,⟨by omega,rfl⟩,H8⟩
     ·have hjl : ¬ (j : Int) < (n : Int) := by omega
      obtain rfl : j = n := by have := H5.out.1; omega
      go_wp2_with fail
      go_ret
      exact ⟨a1,g,c1,rfl,by rw [HE.out]; exact HP.out.pw.own,HP.out.pw.only,HP.out.pw.new,HSL0.out⟩
end Go.Proofs.YtbenlgandjjopaaGreatDoor
