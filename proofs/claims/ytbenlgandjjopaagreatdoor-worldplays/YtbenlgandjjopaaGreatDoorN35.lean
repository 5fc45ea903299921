/- . -/
import Derived.Stop.Asserts
import Derived.RowKitTokens
import Derived.Test.YtbenlgandjjopaaGreatDoorN20
open Go.Value renaming int → J
open Go.IntKind renaming i64 → U
open List renaming mem_cons → zrd
namespace Go.Proofs.YtbenlgandjjopaaGreatDoor
set_option maxRecDepth 100000
set_option maxHeartbeats 4000000
variable {w w' : World} {p r : Nat} {x y z : Int}
def allocN (o : Obj) : Nat → World → World
 | 0,w => w
 | k + 1,w => allocN o k (w.alloc o)
def setAll (ps : List (Nat × Nat)) (listed : Array Bool) : Array Bool := ps.foldl (fun l p => l.setIfInBounds p.1 true) listed
def putAll (ps : List (Nat × Nat)) (f : Nat → Nat) (a : Act) : Act := ps.foldl (fun a p => a.put (some p.2) (.pointer (some ⟨f p.2,0,none⟩))) a
def readyAll (md : Region.Mode) (ops : Array Oper) : Nat → List (Nat × Nat) → Array Bool → Bool
 | 0,_,_ => true
 | k + 1,ps,listed => (Region.ready md ops listed == ps.map (·.1)) && ps.all fun p => readyAll md ops k (ps.erase p) (listed.setIfInBounds p.1 true)
theorem yf3 {ps qs : List (Nat × Nat)} (h : ps.Perm qs) (listed : Array Bool) : setAll ps listed = setAll qs listed :=
 h.foldl_eq' (fun x _ y _ z => by
  by_cases e : x.1 = y.1
  ·rw [e]
  ·exact Array.setIfInBounds_comm _ _ e) listed
theorem yfr {ps qs : List (Nat × Nat)} (h : ps.Perm qs) (f : Nat → Nat) (a : Act) : putAll ps f a = putAll qs f a :=
 h.foldl_eq' (fun x _ y _ z => by
  by_cases e : x.2 = y.2
  ·rw [e]
  ·simp only [Act.put]
   rw [Array.setIfInBounds_comm _ _ e]) a
theorem y7a {f g : Nat → Nat} : ∀ (ps : List (Nat × Nat)) (a : Act),(∀ p ∈ ps,f p.2 = g p.2) → putAll ps f a = putAll ps g a
 | [],_,_ => rfl
 | p :: ps,a,h => by
  have h1 := y7a ps (a.put (some p.2) (.pointer (some (Y (g p.2) 0)))) (fun q hq => h q (List.mem_cons_of_mem _ hq));unfold putAll at h1 ⊢;rw [List.foldl_cons,List.foldl_cons,h p (by simp),h1]
section
variable {P : Program} {ops : Array Oper} {Q : Exit → Act → World → Prop} {md : Region.Mode} {S : World → Prop}
theorem yhb (o : Obj) (fuel : Nat) : ∀ (k : Nat) (ps : List (Nat × Nat)) (listed : Array Bool) (a : Act) (w : World),ps.length = k → (ps.map (·.2)).Nodup → readyAll md ops k ps listed = true →
  (∀ p ∈ ps,∀ (a : Act) (w : World) (K : Act → World → Prop),K (a.put (some p.2) (.pointer (some (Y w.heap.size 0)))) (w.alloc o) → wpOp P ops Q p.1 K a w) →
  (∀ j,1 ≤ j → j ≤ k → S (allocN o j w)) →
  (∀ f : Nat → Nat,(∀ p ∈ ps,w.heap.size ≤ f p.2 ∧ f p.2 < w.heap.size + k) → (∀ p ∈ ps,∀ q ∈ ps,f p.2 = f q.2 → p.2 = q.2) → wpAnyH P md ops Q S fuel (setAll ps listed) (putAll ps f a) (allocN o k w)) →
  wpAnyH P md ops Q S (fuel + k) listed a w := by
 intro k
 induction k with
 | zero =>
  intro ps listed a w hl _ _ _ _ hfin;obtain rfl : ps = [] := List.length_eq_zero_iff.1 hl;exact hfin (fun _ => 0) (by simp) (by simp)
 | succ k ih =>
  intro ps listed a w hl hnd hr hstep hS hfin;simp only [readyAll,Bool.and_eq_true,beq_iff_eq,List.all_eq_true] at hr;refine wpAnyH_all hr.1 (fun e => by rw [List.map_eq_nil_iff] at e; rw [e] at hl; simp at hl) (fun i hi => ?_);obtain ⟨p,hp,rfl⟩ := List.mem_map.1 hi;refine hstep p hp _ _ _ ⟨hS 1 (by omega) (by omega),?_⟩;have hperm : ps.Perm (p :: ps.erase p) := List.perm_cons_erase hp;have hnd2 : ((p :: ps.erase p).map (·.2)).Nodup := (hperm.map (·.2)).nodup_iff.1 hnd;rw [List.map_cons,List.nodup_cons] at hnd2;have hne : ∀ q ∈ ps.erase p,q.2 ≠ p.2 := fun q hq e => hnd2.1 (e ▸ List.mem_map_of_mem (f := (·.2)) hq);refine ih (ps.erase p) _ _ _ (by rw [List.length_erase_of_mem hp,hl]; rfl) hnd2.2 (hr.2 p hp) (fun q hq => hstep q (List.mem_of_mem_erase hq)) (fun j h1 h2 => hS (j + 1) (by omega) (by omega)) (fun f' hf1 hf2 => ?_);have hsz : (w.alloc o).heap.size = w.heap.size + 1 := by simp
  rw [hsz] at hf1
  have hmem : ∀ q ∈ ps,q = p ∨ q ∈ ps.erase p := fun q hq => by
   have := hperm.mem_iff.1 hq;simpa using this
  have key := hfin (fun d => if d = p.2 then w.heap.size else f' d) (fun q hq => by
   rcases hmem q hq with e | e
   ·subst e; simp
   ·have h1 := hf1 q e; simp only [hne q e,if_false]; omega) (fun q hq r hr' => by
   rcases hmem q hq with e | e <;> rcases hmem r hr' with e' | e'
   ·subst e e'; intro _; rfl
   ·subst e; intro h; have h1 := hf1 r e'; simp only [hne r e',if_true,if_false] at h; omega
   ·subst e'; intro h; have h1 := hf1 q e; simp only [hne q e,if_true,if_false] at h; omega
   ·intro h; simp only [hne q e,hne r e',if_false] at h; exact hf2 q e r e' h)
  rw [yf3 hperm,yfr hperm] at key
  have e1 : putAll (p :: ps.erase p) (fun d => if d = p.2 then w.heap.size else f' d) a = putAll (ps.erase p) f' (a.put (some p.2) (.pointer (some (Y w.heap.size 0)))) := by
   show putAll (ps.erase p) (fun d => if d = p.2 then w.heap.size else f' d) (a.put (some p.2) (.pointer (some (Y (if p.2 = p.2 then w.heap.size else f' p.2) 0)))) = _;rw [if_pos rfl];exact y7a _ _ (fun q hq => if_neg (hne q hq))
  rw [e1] at key;exact key
end
open Go.ChangeShapes Go.WideShapes Go.ChangeAt Go.RowKit
set_option linter.unusedVariables false
set_option linter.unusedSimpArgs false
def numL (q : Bd) : List Int := [q.id,q.ow,q.kd,q.sx,q.sy,q.sz,q.ax,q.ay,q.az,q.vx,q.vy,q.vz,q.px,q.py,q.pz,q.ms,q.tm]
def VA (w : World) (p : Nat) (x y z : Int) : Prop := w.heap[p]? = some (.cells #[J U x,J U y,J U z] 23)
theorem VA.off (h : VA w p x y z) (i : Nat) : w.cell? (Y p i) = #[I x,I y,I z][i]? := by unfold VA at h; simp [World.cell?,h]
theorem VA.free (h : VA w p x y z) (i : Nat) : w.frozen? (Y p i) = false := by unfold VA at h; simp [World.frozen?,h]
theorem VA.put (h : VA w p x y z) (a b c : Int) : VA (((w.setCell (Y p 0) (I a)).setCell (Y p 1) (I b)).setCell (Y p 2) (I c)) p a b c := y0f (y0f (y0f h _ _) _ _) _ _
theorem VA.far (h : VA w p x y z) (hp : p ≠ r) (a b c : Value) : VA (((w.setCell (Y r 0) a).setCell (Y r 1) b).setCell (Y r 2) c) p x y z :=
 (Below.heap_setCell _ _ _ _ hp).trans ((Below.heap_setCell _ _ _ _ hp).trans ((Below.heap_setCell _ _ _ _ hp).trans h))
theorem VA.only (h : VA w p x y z) (o : Only [] w w') : VA w' p x y z := (o.block p (Array.getElem?_eq_some_iff.1 h).1 (by simp)).trans h
theorem Only.put3 {a : World} (h : Only [] a w) (hr : a.heap.size ≤ r) (x y z : Value) : Only [] a (((w.setCell (Y r 0) x).setCell (Y r 1) y).setCell (Y r 2) z) :=
 ((h.setCell (p := Y r 0) (Or.inr hr) x).setCell (p := Y r 1) (Or.inr hr) y).setCell (p := Y r 2) (Or.inr hr) z
theorem y3y (o : Obj) : ∀ (k : Nat) (w : World),Only [] w (allocN o k w)
 | 0,w => Only.refl [] w
 | k + 1,w => ((Only.refl [] w).alloc o).trans (y3y o k _)
theorem y4d (o : Obj) : ∀ (k : Nat) (w : World) (p : Nat),w.heap.size ≤ p → p < w.heap.size + k → (allocN o k w).heap[p]? = some o
 | 0,w,p,h1,h2 => by omega
 | k + 1,w,p,h1,h2 => by
  rw [allocN];by_cases e : p = w.heap.size
  ·have h := (MapKept.heap_alloc w o).1
   rw [e,← h];exact (y3y o k (w.alloc o)).block _ (by simp) (by simp)
  ·exact y4d o k (w.alloc o) p (by simp; omega) (by simp; omega)
theorem yb8 (q : Bd) (w : World) :
  Calls Tryz.prog 60 #[.agg (bdA q)] w fun e w' => ∃ g,e = .returned (.slice (some (Y g 0)) 17 17) ∧ w'.heap[g]? = some (.cells (bdA q) 3) ∧ Only [] w w' ∧ w.heap.size ≤ g := by
 go_enter Tryz.func60,Tryz.ntmps60
 go_upto_region 1 with fail
 have H0 : Hid (BodyAt (w.alloc (.cells (bdA q) 45)) w.heap.size q ∧ Only [] w (w.alloc (.cells (bdA q) 45))) := ⟨(MapKept.heap_alloc w _).1,(Only.refl [] w).alloc _⟩;revert H0;generalize World.alloc w _ = w1;generalize w.heap.size = kb;intro H0
 have HK : Hid (∀ w',Only [] w1 w' → w'.cell? (Y kb 3) = some (I q.sx) ∧ w'.cell? (Y kb 4) = some (I q.sy) ∧ w'.cell? (Y kb 5) = some (I q.sz) ∧ w'.cell? (Y kb 6) = some (I q.ax) ∧ w'.cell? (Y kb 7) = some (I q.ay) ∧ w'.cell? (Y kb 8) = some (I q.az) ∧ w'.cell? (Y kb 9) = some (I q.vx) ∧ w'.cell? (Y kb 10) = some (I q.vy) ∧ w'.cell? (Y kb 11) = some (I q.vz) ∧ w'.cell? (Y kb 12) = some (I q.px) ∧ w'.cell? (Y kb 13) = some (I q.py) ∧ w'.cell? (Y kb 14) = some (I q.pz)) := fun w' o => by
  have h := H0.out.1.only o;exact ⟨h.off 3,h.off 4,h.off 5,h.off 6,h.off 7,h.off 8,h.off 9,h.off 10,h.off 11,h.off 12,h.off 13,h.off 14⟩
 go_cut [3,4,5,6] from 7 to 15 (fun s3 s4 s5 s6 wc => ∃ p3 p4 p5 p6,s3 = .pointer (some (Y p3 0)) ∧ s4 = .pointer (some (Y p4 0)) ∧ s5 = .pointer (some (Y p5 0)) ∧ s6 = .pointer (some (Y p6 0)) ∧ VA wc p3 q.sx q.sy q.sz ∧ VA wc p4 q.ax q.ay q.az ∧ VA wc p5 q.vx q.vy q.vz ∧ VA wc p6 q.px q.py q.pz ∧ Only [] w1 wc)
 case first =>
  refine wp_region_held_drew (S := (fun w' => Zc w' kb 3 q.sx ∧ Zc w' kb 4 q.sy ∧ Zc w' kb 5 q.sz ∧ Zc w' kb 6 q.ax ∧ Zc w' kb 7 q.ay ∧ Zc w' kb 8 q.az ∧ Zc w' kb 9 q.vx ∧ Zc w' kb 10 q.vy ∧ Zc w' kb 11 q.vz ∧ Zc w' kb 12 q.px ∧ Zc w' kb 13 q.py ∧ Zc w' kb 14 q.pz)) (by kernel_rfl) ?_ (fun hJ1 => ?_)
  ·exact HK.out _ (Only.refl [] w1).drew
  refine tkU 0 (h:=tkU 1 (h:=tkU 2 (h:=tkV 3 ?_)));try simp only [zP]
  refine tkU 4 (h:=tkU 5 (h:=tkU 6 (h:=tkV 7 ?_)));try simp only [zP]
  refine tkV 8 ?_;try simp only [zP]
  refine yhb (.cells #[I 0,I 0,I 0] 23) 4 4 [(9,3),(10,4),(11,5),(12,6)] _ _ _ rfl (by decide) (by kernel_rfl) ?_ (fun j _ _ => HK.out _ ((Only.refl [] w1).drew.trans (y3y _ _ _))) ?_
  ·intro p hp a' w' K hK
   simp only [zrd,List.not_mem_nil,or_false] at hp;rcases hp with rfl | rfl | rfl | rfl
   all_goals
    unfold wpOp;simp only [zR];rw [if_pos (by rfl)];left;go_simp;exact hK
  ·intro f hf hinj
   simp only [setAll,putAll,List.foldl_cons,List.foldl_nil,zT];have b3 := hf (9,3) (by simp); have b4 := hf (10,4) (by simp); have b5 := hf (11,5) (by simp); have b6 := hf (12,6) (by simp);have n34 : f 3 ≠ f 4 := fun e => by have := hinj (9,3) (by simp) (10,4) (by simp) e; omega
   have n35 : f 3 ≠ f 5 := fun e => by have := hinj (9,3) (by simp) (11,5) (by simp) e; omega
   have n36 : f 3 ≠ f 6 := fun e => by have := hinj (9,3) (by simp) (12,6) (by simp) e; omega
   have n45 : f 4 ≠ f 5 := fun e => by have := hinj (10,4) (by simp) (11,5) (by simp) e; omega
   have n46 : f 4 ≠ f 6 := fun e => by have := hinj (10,4) (by simp) (12,6) (by simp) e; omega
   have n56 : f 5 ≠ f 6 := fun e => by have := hinj (11,5) (by simp) (12,6) (by simp) e; omega
   simp only at b3 b4 b5 b6
   have HV : Hid ((VA (allocN (.cells #[I 0,I 0,I 0] 23) 4 w1.drew) (f 3) 0 0 0 ∧ VA (allocN (.cells #[I 0,I 0,I 0] 23) 4 w1.drew) (f 4) 0 0 0 ∧ VA (allocN (.cells #[I 0,I 0,I 0] 23) 4 w1.drew) (f 5) 0 0 0 ∧ VA (allocN (.cells #[I 0,I 0,I 0] 23) 4 w1.drew) (f 6) 0 0 0 ∧ Only [] w1 (allocN (.cells #[I 0,I 0,I 0] 23) 4 w1.drew)) ∧ (w1.heap.size ≤ f 3 ∧ w1.heap.size ≤ f 4 ∧ w1.heap.size ≤ f 5 ∧ w1.heap.size ≤ f 6) ∧ f 3 ≠ f 4 ∧ f 3 ≠ f 5 ∧ f 3 ≠ f 6 ∧ f 4 ≠ f 5 ∧ f 4 ≠ f 6 ∧ f 5 ≠ f 6) :=
    ⟨⟨y4d _ 4 _ _ b3.1 b3.2,y4d _ 4 _ _ b4.1 b4.2,y4d _ 4 _ _ b5.1 b5.2,y4d _ 4 _ _ b6.1 b6.2,(Only.refl [] w1).drew.trans (y3y _ _ _)⟩,⟨b3.1,b4.1,b5.1,b6.1⟩,n34,n35,n36,n45,n46,n56⟩
   clear b3 b4 b5 b6 n34 n35 n36 n45 n46 n56 hf hinj;revert HV;generalize allocN _ 4 w1.drew = W;generalize f 3 = p3;generalize f 4 = p4;generalize f 5 = p5;generalize f 6 = p6;intro HV;have e0 := HV.out.1.1.off 0; have e1 := HV.out.1.1.off 1; have e2 := HV.out.1.1.off 2;have f0 := HV.out.1.1.free 0; have f1 := HV.out.1.1.free 1; have f2 := HV.out.1.1.free 2;simp only [zR] at e0 e1 e2;refine rdW 13 rfl fun K hK => ?_;simp only [zQ];go_simp;refine hK.out _ _ ?_ fun hJ2 => ?_
   ·exact HK.out _ (HV.out.1.2.2.2.2.put3 HV.out.2.1.1 _ _ _)
   clear hK K;try simp only [zP]
   have HV2 : Hid ((VA (((W.setCell (Y p3 0) (I q.sx)).setCell (Y p3 1) (I q.sy)).setCell (Y p3 2) (I q.sz)) p3 q.sx q.sy q.sz ∧ VA (((W.setCell (Y p3 0) (I q.sx)).setCell (Y p3 1) (I q.sy)).setCell (Y p3 2) (I q.sz)) p4 0 0 0 ∧ VA (((W.setCell (Y p3 0) (I q.sx)).setCell (Y p3 1) (I q.sy)).setCell (Y p3 2) (I q.sz)) p5 0 0 0 ∧ VA (((W.setCell (Y p3 0) (I q.sx)).setCell (Y p3 1) (I q.sy)).setCell (Y p3 2) (I q.sz)) p6 0 0 0 ∧ Only [] w1 (((W.setCell (Y p3 0) (I q.sx)).setCell (Y p3 1) (I q.sy)).setCell (Y p3 2) (I q.sz))) ∧ (w1.heap.size ≤ p3 ∧ w1.heap.size ≤ p4 ∧ w1.heap.size ≤ p5 ∧ w1.heap.size ≤ p6) ∧ p3 ≠ p4 ∧ p3 ≠ p5 ∧ p3 ≠ p6 ∧ p4 ≠ p5 ∧ p4 ≠ p6 ∧ p5 ≠ p6) := ⟨⟨HV.out.1.1.put _ _ _,HV.out.1.2.1.far (fun e => HV.out.2.2.1 e.symm) _ _ _,HV.out.1.2.2.1.far (fun e => HV.out.2.2.2.1 e.symm) _ _ _,HV.out.1.2.2.2.1.far (fun e => HV.out.2.2.2.2.1 e.symm) _ _ _,HV.out.1.2.2.2.2.put3 HV.out.2.1.1 _ _ _⟩,HV.out.2⟩;clear e0 e1 e2 f0 f1 f2 HV;generalize World.setCell (World.setCell (World.setCell W _ _) _ _) _ _ = W4 at HV2 ⊢;have HV := HV2;clear HV2;have e0 := HV.out.1.2.1.off 0; have e1 := HV.out.1.2.1.off 1; have e2 := HV.out.1.2.1.off 2;have f0 := HV.out.1.2.1.free 0; have f1 := HV.out.1.2.1.free 1; have f2 := HV.out.1.2.1.free 2;simp only [zR] at e0 e1 e2;refine rdW 14 rfl fun K hK => ?_;simp only [zQ];go_simp;refine hK.out _ _ ?_ fun hJ3 => ?_
   ·exact HK.out _ (HV.out.1.2.2.2.2.put3 HV.out.2.1.2.1 _ _ _)
   clear hK K;try simp only [zP]
   have HV2 : Hid ((VA (((W4.setCell (Y p4 0) (I q.ax)).setCell (Y p4 1) (I q.ay)).setCell (Y p4 2) (I q.az)) p3 q.sx q.sy q.sz ∧ VA (((W4.setCell (Y p4 0) (I q.ax)).setCell (Y p4 1) (I q.ay)).setCell (Y p4 2) (I q.az)) p4 q.ax q.ay q.az ∧ VA (((W4.setCell (Y p4 0) (I q.ax)).setCell (Y p4 1) (I q.ay)).setCell (Y p4 2) (I q.az)) p5 0 0 0 ∧ VA (((W4.setCell (Y p4 0) (I q.ax)).setCell (Y p4 1) (I q.ay)).setCell (Y p4 2) (I q.az)) p6 0 0 0 ∧ Only [] w1 (((W4.setCell (Y p4 0) (I q.ax)).setCell (Y p4 1) (I q.ay)).setCell (Y p4 2) (I q.az))) ∧ (w1.heap.size ≤ p3 ∧ w1.heap.size ≤ p4 ∧ w1.heap.size ≤ p5 ∧ w1.heap.size ≤ p6) ∧ p3 ≠ p4 ∧ p3 ≠ p5 ∧ p3 ≠ p6 ∧ p4 ≠ p5 ∧ p4 ≠ p6 ∧ p5 ≠ p6) := ⟨⟨HV.out.1.1.far (HV.out.2.2.1) _ _ _,HV.out.1.2.1.put _ _ _,HV.out.1.2.2.1.far (fun e => HV.out.2.2.2.2.2.1 e.symm) _ _ _,HV.out.1.2.2.2.1.far (fun e => HV.out.2.2.2.2.2.2.1 e.symm) _ _ _,HV.out.1.2.2.2.2.put3 HV.out.2.1.2.1 _ _ _⟩,HV.out.2⟩;clear e0 e1 e2 f0 f1 f2 HV;generalize World.setCell (World.setCell (World.setCell W4 _ _) _ _) _ _ = W5 at HV2 ⊢;have HV := HV2;clear HV2;have e0 := HV.out.1.2.2.1.off 0; have e1 := HV.out.1.2.2.1.off 1; have e2 := HV.out.1.2.2.1.off 2;have f0 := HV.out.1.2.2.1.free 0; have f1 := HV.out.1.2.2.1.free 1; have f2 := HV.out.1.2.2.1.free 2;simp only [zR] at e0 e1 e2;refine rdW 15 rfl fun K hK => ?_;simp only [zQ];go_simp;refine hK.out _ _ ?_ fun hJ4 => ?_
   ·exact HK.out _ (HV.out.1.2.2.2.2.put3 HV.out.2.1.2.2.1 _ _ _)
   clear hK K;try simp only [zP]
   have HV2 : Hid ((VA (((W5.setCell (Y p5 0) (I q.vx)).setCell (Y p5 1) (I q.vy)).setCell (Y p5 2) (I q.vz)) p3 q.sx q.sy q.sz ∧ VA (((W5.setCell (Y p5 0) (I q.vx)).setCell (Y p5 1) (I q.vy)).setCell (Y p5 2) (I q.vz)) p4 q.ax q.ay q.az ∧ VA (((W5.setCell (Y p5 0) (I q.vx)).setCell (Y p5 1) (I q.vy)).setCell (Y p5 2) (I q.vz)) p5 q.vx q.vy q.vz ∧ VA (((W5.setCell (Y p5 0) (I q.vx)).setCell (Y p5 1) (I q.vy)).setCell (Y p5 2) (I q.vz)) p6 0 0 0 ∧ Only [] w1 (((W5.setCell (Y p5 0) (I q.vx)).setCell (Y p5 1) (I q.vy)).setCell (Y p5 2) (I q.vz))) ∧ (w1.heap.size ≤ p3 ∧ w1.heap.size ≤ p4 ∧ w1.heap.size ≤ p5 ∧ w1.heap.size ≤ p6) ∧ p3 ≠ p4 ∧ p3 ≠ p5 ∧ p3 ≠ p6 ∧ p4 ≠ p5 ∧ p4 ≠ p6 ∧ p5 ≠ p6) := ⟨⟨HV.out.1.1.far (HV.out.2.2.2.1) _ _ _,HV.out.1.2.1.far (HV.out.2.2.2.2.2.1) _ _ _,HV.out.1.2.2.1.put _ _ _,HV.out.1.2.2.2.1.far (fun e => HV.out.2.2.2.2.2.2.2 e.symm) _ _ _,HV.out.1.2.2.2.2.put3 HV.out.2.1.2.2.1 _ _ _⟩,HV.out.2⟩;clear e0 e1 e2 f0 f1 f2 HV;generalize World.setCell (World.setCell (World.setCell W5 _ _) _ _) _ _ = W6 at HV2 ⊢;have HV := HV2;clear HV2;have e0 := HV.out.1.2.2.2.1.off 0; have e1 := HV.out.1.2.2.2.1.off 1; have e2 := HV.out.1.2.2.2.1.off 2;have f0 := HV.out.1.2.2.2.1.free 0; have f1 := HV.out.1.2.2.2.1.free 1; have f2 := HV.out.1.2.2.2.1.free 2;simp only [zR] at e0 e1 e2;refine rdW 16 rfl fun K hK => ?_;simp only [zQ];go_simp;refine hK.out _ _ ?_ fun hJ5 => ?_
   ·exact HK.out _ (HV.out.1.2.2.2.2.put3 HV.out.2.1.2.2.2 _ _ _)
   clear hK K;try simp only [zP]
   have HV2 : Hid ((VA (((W6.setCell (Y p6 0) (I q.px)).setCell (Y p6 1) (I q.py)).setCell (Y p6 2) (I q.pz)) p3 q.sx q.sy q.sz ∧ VA (((W6.setCell (Y p6 0) (I q.px)).setCell (Y p6 1) (I q.py)).setCell (Y p6 2) (I q.pz)) p4 q.ax q.ay q.az ∧ VA (((W6.setCell (Y p6 0) (I q.px)).setCell (Y p6 1) (I q.py)).setCell (Y p6 2) (I q.pz)) p5 q.vx q.vy q.vz ∧ VA (((W6.setCell (Y p6 0) (I q.px)).setCell (Y p6 1) (I q.py)).setCell (Y p6 2) (I q.pz)) p6 q.px q.py q.pz ∧ Only [] w1 (((W6.setCell (Y p6 0) (I q.px)).setCell (Y p6 1) (I q.py)).setCell (Y p6 2) (I q.pz))) ∧ (w1.heap.size ≤ p3 ∧ w1.heap.size ≤ p4 ∧ w1.heap.size ≤ p5 ∧ w1.heap.size ≤ p6) ∧ p3 ≠ p4 ∧ p3 ≠ p5 ∧ p3 ≠ p6 ∧ p4 ≠ p5 ∧ p4 ≠ p6 ∧ p5 ≠ p6) := ⟨⟨HV.out.1.1.far (HV.out.2.2.2.2.1) _ _ _,HV.out.1.2.1.far (HV.out.2.2.2.2.2.2.1) _ _ _,HV.out.1.2.2.1.far (HV.out.2.2.2.2.2.2.2) _ _ _,HV.out.1.2.2.2.1.put _ _ _,HV.out.1.2.2.2.2.put3 HV.out.2.1.2.2.2 _ _ _⟩,HV.out.2⟩;clear e0 e1 e2 f0 f1 f2 HV;generalize World.setCell (World.setCell (World.setCell W6 _ _) _ _) _ _ = W7 at HV2 ⊢;have HV := HV2;clear HV2;refine wpAnyH_done (by kernel_rfl) ?_ _;go_wp2_with fail
   go_meet
   case rel => exact ⟨p3,p4,p5,p6,rfl,rfl,rfl,rfl,HV.out.1⟩
 case rest =>
  obtain ⟨p3,p4,p5,p6,rfl,rfl,rfl,rfl,hv⟩ := hcut;have HV : Hid (VA wc p3 q.sx q.sy q.sz ∧ VA wc p4 q.ax q.ay q.az ∧ VA wc p5 q.vx q.vy q.vz ∧ VA wc p6 q.px q.py q.pz ∧ Only [] w1 wc) := hv;clear hv;have hb := H0.out.1.only HV.out.2.2.2.2;have c0 := hb.off 0;have c1 := hb.off 1;have c2 := hb.off 2;have c15 := hb.off 15;have c16 := hb.off 16;have v30 := HV.out.1.off 0;have v31 := HV.out.1.off 1;have v32 := HV.out.1.off 2;have v40 := HV.out.2.1.off 0;have v41 := HV.out.2.1.off 1;have v42 := HV.out.2.1.off 2;have v50 := HV.out.2.2.1.off 0;have v51 := HV.out.2.2.1.off 1;have v52 := HV.out.2.2.1.off 2;have v60 := HV.out.2.2.2.1.off 0;have v61 := HV.out.2.2.2.1.off 1;have v62 := HV.out.2.2.2.1.off 2;simp only [zR] at c0 c1 c2 c15 c16 v30 v31 v32 v40 v41 v42 v50 v51 v52 v60 v61 v62;clear hb;go_wp2_with fail
  go_ret
  exact ⟨_,rfl,(MapKept.heap_alloc wc _).1,(H0.out.2.trans HV.out.2.2.2.2).alloc _,Nat.le_trans H0.out.2.size HV.out.2.2.2.2.size⟩
def digS (d n : Int) : Int := IntKind.u64.wrap (Go.bits .xor .u64 d (IntKind.u64.wrap n) * 1099511628211)
def digL (d : Int) (l : List Int) : Int := l.foldl digS d
def digB (B : Nat → Bd) : Nat → Int
 | 0 => 14695981039346656037
 | k + 1 => digL (digB B k) (numL (B k))
def digF (d : Int) : Int := wrap64 (IntKind.u64.wrap (d.tdiv 2))
theorem ydl (d : Int) (l : List Int) (j : Nat) (h : j < l.length) : digL d (l.take (j + 1)) = digS (digL d (l.take j)) (l.getD j 0) := by
 unfold digL;rw [List.take_succ_eq_append_getElem h,List.foldl_append,List.getD_eq_getElem?_getD,List.getElem?_eq_getElem h]; rfl
theorem y4q (q : Bd) : (numL q).length = 17 := rfl
theorem yjp {g : Nat} {q : Bd} (h : w.heap[g]? = some (.cells (bdA q) 3)) (j : Nat) (hj : j < 17) : w.cell? (Y g j) = some (J U ((numL q).getD j 0)) := by
 have e : w.cell? (Y g j) = ((bdA q) : Array Value)[j]? := by simp [World.cell?,h]
 rw [e]
 match j,hj with
 | 0,_ => rfl
 | 1,_ => rfl
 | 2,_ => rfl
 | 3,_ => rfl
 | 4,_ => rfl
 | 5,_ => rfl
 | 6,_ => rfl
 | 7,_ => rfl
 | 8,_ => rfl
 | 9,_ => rfl
 | 10,_ => rfl
 | 11,_ => rfl
 | 12,_ => rfl
 | 13,_ => rfl
 | 14,_ => rfl
 | 15,_ => rfl
 | 16,_ => rfl
 | k + 17,h => exact absurd h (by omega)
theorem ydf (x : Nat) (c : Wc) (a : Option Addr) (n cap t : Nat) (la st : Int) (B : Nat → Bd) (w : World) (hn : n ≤ 60) (hw : WorldAt w x c a n cap t la st) (hb : BodiesAt w a n B) :
  Calls Tryz.prog 25 #[.pointer (some (Y x 0))] w fun e w' => e = .returned (I (digF (digB B n))) ∧ Only [] w w' := by
 have HB : Hid (WorldAt w x c a n cap t la st ∧ BodiesAt w a n B ∧ n ≤ 60) := ⟨hw,hb,hn⟩;have s7 := hw.off 7;simp only [zR] at s7;clear hw hb hn;go_enter Tryz.func25,Tryz.ntmps25
 go_wp2_with fail
 clear s7;go_loopg [3,13] n (fun k dv idx wr => ∃ i : Nat,dv = .int .u64 (digB B i) ∧ idx = I (i : Int) ∧ Hid (i ≤ n ∧ k = n - i) ∧ Hid (Only [] w wr))
 case atStart => exact ⟨0,rfl,rfl,⟨by omega,rfl⟩,Only.refl _ _⟩
 case round =>
  obtain ⟨i,rfl,rfl,H1,HO⟩ := hrel;have hn := HB.out.2.2;by_cases hi : i < n
  ·have hil : (i : Int) < (n : Int) := by omega
   obtain ⟨g,f,rfl,hc⟩ := (HB.out.2.1.only HO.out) i hi;obtain ⟨q,hq⟩ : ∃ q,B i = q := ⟨_,rfl⟩;obtain ⟨d0,hd0⟩ : ∃ d0,digB B i = d0 := ⟨_,rfl⟩;have HC : Hid (digB B (i + 1) = digL d0 (numL q)) := by rw [← hq,← hd0]; exact rfl
   rw [hq] at hc;rw [hd0];clear hq hd0;go_upto_region 5 with (first | (refine wpList_load_mid rfl 45 (.tmp 15) rfl g (f + i * 17) rfl [I q.id,I q.ow,I q.kd,I q.sx,I q.sy,I q.sz,I q.ax,I q.ay,I q.az,I q.vx,I q.vy,I q.vz,I q.px,I q.py,I q.pz,I q.ms,I q.tm] _ (range17 hc) Tryz.underlying45 rfl bodySize ?_))
   clear hc;have H9 : Hid (Only [] w (wr.alloc (.cells (bdA q) 45)) ∧ BodyAt (wr.alloc (.cells (bdA q) 45)) wr.heap.size q) := ⟨HO.out.trans ((Only.refl [] wr).alloc _),(MapKept.heap_alloc wr _).1⟩;revert H9;generalize wr.heap.size = kb;generalize World.alloc wr _ = w9;intro H9;have hkb : ∀ k,k < 17 → w9.cell? (Y kb (0 + k)) = some (bc q k) := H9.out.2.range;go_wp2_with (first | (refine wpList_load_mid rfl 45 (.tmp 5) rfl kb (0) rfl [I q.id,I q.ow,I q.kd,I q.sx,I q.sy,I q.sz,I q.ax,I q.ay,I q.az,I q.vx,I q.vy,I q.vz,I q.px,I q.py,I q.pz,I q.ms,I q.tm] _ (range17 hkb) Tryz.underlying45 rfl bodySize ?_))
   clear hkb;refine (yb8 q w9).mono ?_;rintro e w8 ⟨gn,rfl,hgn,o8,_⟩;have H8 : Hid (Only [] w w8 ∧ w8.heap[gn]? = some (.cells (bdA q) 3)) := ⟨H9.out.1.trans o8,hgn⟩;clear hgn o8 H9;go_wp2_with fail
   go_loopg [3,20] 17 (fun m dv idx wz => ∃ j : Nat,dv = .int .u64 (digL d0 ((numL q).take j)) ∧ idx = I (j : Int) ∧ Hid (m = 17 - j ∧ j ≤ 17) ∧ wz = w8)
   case atStart => exact ⟨0,rfl,rfl,⟨rfl,by omega⟩,rfl⟩
   case round =>
    obtain ⟨j,rfl,rfl,HJ,rfl⟩ := hrel;by_cases hj : j < 17
    ·have hjl : (j : Int) < 17 := by omega
     have hcj := yjp H8.out.2 j hj;have HD : Hid (digL d0 ((numL q).take (j + 1)) = digS (digL d0 ((numL q).take j)) ((numL q).getD j 0)) := ydl d0 (numL q) j (by rw [y4q]; exact hj);revert HD;generalize digL d0 ((numL q).take j) = dj;generalize (numL q).getD j 0 = nj at hcj;intro HD;go_wp2_with fail
     go_roundg (17 - (j + 1))
     case measure => have := HJ.out.1; omega
     case rel => exact ⟨j + 1,by rw [HD.out]; rfl,by go_num,⟨rfl,by omega⟩,rfl⟩
    ·have hjl : ¬ (j : Int) < 17 := by omega
     obtain rfl : j = 17 := by have := HJ.out.2; omega
     go_wp2_with fail
     go_roundg (n - (i + 1))
     case measure => have := H1.out.2; omega
     case rel => exact ⟨i + 1,by rw [HC.out]; rfl,by go_num,⟨by omega,rfl⟩,H8.out.1⟩
  ·have hil : ¬ (i : Int) < (n : Int) := by omega
   obtain rfl : i = n := by have := H1.out.1; omega
   go_wp2_with fail
   go_ret
   exact ⟨rfl,HO.out⟩
open Go.ChangeShapes Go.WideShapes Go.ChangeAt Go.RowKit Go.Extern.Stop Go.Stop Go.Extern
def EtIs (w : World) : Prop := w.cell? ⟨0,0,none⟩ = some (.iface 222 (.agg #[.pointer (some ⟨1,31,none⟩)]))
theorem EtIs.kept (k : Kept w w') (h : EtIs w) : EtIs w' := y00 k h
theorem yex (t : Addr) (w : World) : (ReflectliteValue.unpack (.iface 156 (.pointer (some t)))).run Tryz.prog w
  = .ok (.agg #[.pointer (some (Y 1 156)),.pointer (some (Y w.heap.size 0)),.int .u64 150]) (w.alloc (.cells #[.pointer (some t)] 156)) := by kernel_rfl
theorem yff (n : Int) (w : World) : (ReflectliteValue.unpack (.iface 39 (I n))).run Tryz.prog w
  = .ok (.agg #[.pointer (some (Y 1 39)),.pointer (some (Y w.heap.size 0)),.int .u64 130]) (w.alloc (.cells #[I n] 39)) := by kernel_rfl
theorem rl_typeP (a : Addr) (w : World) : (ReflectliteValue.methodAny (ReflectliteValue.valueError "reflectlite.Value.Type" 0) (fun t _ _ _ => ReflectliteType.toType t) #[.agg #[.pointer (some (Y 1 156)),.pointer (some a),.int .u64 150]]).run Tryz.prog w
  = .ok (.iface 222 (.agg #[.pointer (some (Y 1 156))])) w := by kernel_rfl
theorem ycm (h : Value) (w : World) : (Go.method 378 222 (.agg #[h]) "Kind").run Tryz.prog w = .ok (219,h) w := by kernel_rfl
theorem ybk (h : Value) (w : World) : (Go.method 378 222 (.agg #[h]) "Elem").run Tryz.prog w = .ok (232,.agg #[h]) w := by kernel_rfl
theorem y5h (h : Value) (w : World) : (Go.method 378 222 (.agg #[h]) "Implements").run Tryz.prog w = .ok (233,.agg #[h]) w := by kernel_rfl
theorem y43 (h : Value) (w : World) : (Go.method 378 222 (.agg #[h]) "AssignableTo").run Tryz.prog w = .ok (230,.agg #[h]) w := by kernel_rfl
theorem rl_kindP (w : World) : ((ReflectliteType.abiMethod fun t => (fun a : Nat => Value.int IntKind.u8 (a : Int)) <$> Rtype.kind t) #[.pointer (some (Y 1 156))]).run Tryz.prog w = .ok (.int .u8 22) w := by kernel_rfl
theorem rl_kindE (w : World) : ((ReflectliteType.abiMethod fun t => (fun a : Nat => Value.int IntKind.u8 (a : Int)) <$> Rtype.kind t) #[.pointer (some (Y 1 39))]).run Tryz.prog w = .ok (.int .u8 2) w := by kernel_rfl
theorem ye9 (a : Addr) (w : World) : (ReflectliteValue.parts (.agg #[.pointer (some (Y 1 156)),.pointer (some a),.int .u64 150])).run Tryz.prog w = .ok (some (156,a,150)) w := by kernel_rfl
theorem yk0 (a p : Addr) (W : World) (ha : W.cell? a = some (.pointer (some p))) :
  (ReflectliteValue.method (ReflectliteValue.valueError "reflectlite.Value.IsNil" 0) ReflectliteValue.isNil #[.agg #[.pointer (some (Y 1 156)),.pointer (some a),.int .u64 150]]).run Tryz.prog W = .ok (.bool false) W := by
 show (ReflectliteValue.parts _ >>= _).run Tryz.prog W = _;simp only [Array.getLit,zQ,Sem.run_bind,ye9,Result.andThen];simp [ReflectliteValue.isNil,loadVar,isAgg,underlying,Tryz.underlying156,ha,Result.andThen]
theorem rl_elemP (w : World) : (ReflectliteType.method ReflectliteType.elem #[.agg #[.pointer (some (Y 1 156))]]).run Tryz.prog w = .ok (.iface 222 (.agg #[.pointer (some (Y 1 39))])) w := by kernel_rfl
theorem y9l (w : World) : (ReflectliteType.relation "Implements" ReflectliteType.implements_ #[.agg #[.pointer (some (Y 1 39))],.iface 222 (.agg #[.pointer (some (Y 1 31))])]).run Tryz.prog w = .ok (.bool true) w := by kernel_rfl
theorem yh7 (v : Value) (w : World) : (ReflectliteType.typeOf #[.iface 39 v]).run Tryz.prog w = .ok (.iface 222 (.agg #[.pointer (some (Y 1 39))])) w := by kernel_rfl
theorem y9d (w : World) : (ReflectliteType.relation "AssignableTo" ReflectliteType.assignableTo #[.agg #[.pointer (some (Y 1 39))],.iface 222 (.agg #[.pointer (some (Y 1 39))])]).run Tryz.prog w = .ok (.bool true) w := by kernel_rfl
theorem yh5 (w : World) : (Rtype.elem? 156).run Tryz.prog w = .ok (some 39) w := by kernel_rfl
theorem rl_mkE (p : Addr) (w : World) : (ReflectliteValue.mk 39 p ReflectliteValue.flagAddr).run Tryz.prog w = .ok (.agg #[.pointer (some (Y 1 39)),.pointer (some p),.int .u64 386]) w := by kernel_rfl
theorem yj6 (a p : Addr) (W : World) (ha : W.cell? a = some (.pointer (some p))) :
  (ReflectliteValue.method (ReflectliteValue.valueError "reflectlite.Value.Elem" 0) ReflectliteValue.elem #[.agg #[.pointer (some (Y 1 156)),.pointer (some a),.int .u64 150]]).run Tryz.prog W
   = .ok (.agg #[.pointer (some (Y 1 39)),.pointer (some p),.int .u64 386]) W := by
 show (ReflectliteValue.parts _ >>= _).run Tryz.prog W = _;simp only [Array.getLit,zQ,Sem.run_bind,ye9,Result.andThen];simp [ReflectliteValue.elem,loadVar,isAgg,underlying,Tryz.underlying156,ha,Result.andThen,yh5,rl_mkE]
theorem yhp (a : Addr) (w : World) : (ReflectliteValue.parts (.agg #[.pointer (some (Y 1 39)),.pointer (some a),.int .u64 386])).run Tryz.prog w = .ok (some (39,a,386)) w := by kernel_rfl
theorem yjz (a : Addr) (w : World) : (ReflectliteValue.parts (.agg #[.pointer (some (Y 1 39)),.pointer (some a),.int .u64 130])).run Tryz.prog w = .ok (some (39,a,130)) w := by kernel_rfl
theorem yht (w : World) : (Rtype.directlyAssignable 39 39).run Tryz.prog w = .ok true w := by kernel_rfl
theorem rl_setE (ta b : Addr) (n : Int) (old : Value) (W : World) (hb : W.cell? b = some (I n)) (ht : W.cell? ta = some old) (hf : W.frozen? ta = false) :
  (ReflectliteValue.set #[.agg #[.pointer (some (Y 1 39)),.pointer (some ta),.int .u64 386],.agg #[.pointer (some (Y 1 39)),.pointer (some b),.int .u64 130]]).run Tryz.prog W
   = .ok (.tuple #[]) (W.setCell ta (I n)) := by
 show (ReflectliteValue.parts _ >>= _).run Tryz.prog W = _;simp only [Array.getLit,zQ,Sem.run_bind,yhp,yjz,Result.andThen];simp [ReflectliteValue.flagAddr,loadVar,isAgg,underlying,Tryz.underlying39,hb,Result.andThen,yht,storeVar,Value.cells,storeCells,Addr.add];rw [run_store Tryz.prog W ta _ _ (by rfl)];simp [ht,hf]
def asW (n : Int) (t : Addr) (w : World) : World :=
 ((((w.alloc (.cells #[.pointer (some t)] 156)).alloc (.cells #[.pointer (some ⟨1,156,none⟩),.pointer (some ⟨w.heap.size,0,none⟩),.int .u64 150] 185)).alloc (.cells #[.pointer (some ⟨1,156,none⟩),.pointer (some ⟨w.heap.size,0,none⟩),.int .u64 150] 185)).alloc (.cells #[J U n] 39)).setCell t (J U n)
theorem as_hit (n : Int) (t : Addr) (old : Value) (w : World) (hg : EtIs w) (ht0 : w.cell? t = some old) (hf0 : w.frozen? t = false) :
  Calls Tryz.prog 103 #[.iface 39 (I n),.iface 156 (.pointer (some t))] w fun ev w' => ev = .returned (.bool true) ∧ w' = asW n t w := by
 have h6 := @run_callFunc_extern Tryz.prog 142 _ (fun args => ReflectliteValue.unpack (args.getD 0 (.tuple #[]))) Tryz.func142 (by kernel_rfl) (by kernel_rfl) (by kernel_rfl) (by kernel_rfl);have h7 := @run_callFunc_extern Tryz.prog 143 _ (ReflectliteValue.methodAny (ReflectliteValue.valueError "reflectlite.Value.Type" 0) (fun t _ _ _ => ReflectliteType.toType t)) Tryz.func143 (by kernel_rfl) (by kernel_rfl) (by kernel_rfl) (by kernel_rfl);have h8 := @run_callFunc_extern Tryz.prog 144 _ (ReflectliteValue.method (ReflectliteValue.valueError "reflectlite.Value.IsNil" 0) ReflectliteValue.isNil) Tryz.func144 (by kernel_rfl) (by kernel_rfl) (by kernel_rfl) (by kernel_rfl);have h27 := @run_callFunc_extern Tryz.prog 219 _ (ReflectliteType.abiMethod fun t => do pure (.int .u8 (← Rtype.kind t))) Tryz.func219 (by kernel_rfl) (by kernel_rfl) (by kernel_rfl) (by kernel_rfl);have h37 := @run_callFunc_extern Tryz.prog 232 _ (ReflectliteType.method ReflectliteType.elem) Tryz.func232 (by kernel_rfl) (by kernel_rfl) (by kernel_rfl) (by kernel_rfl);have h38 := @run_callFunc_extern Tryz.prog 233 _ (ReflectliteType.relation "Implements" ReflectliteType.implements_) Tryz.func233 (by kernel_rfl) (by kernel_rfl) (by kernel_rfl) (by kernel_rfl);have h10 := @run_callFunc_extern Tryz.prog 183 _ ReflectliteType.typeOf Tryz.func183 (by kernel_rfl) (by kernel_rfl) (by kernel_rfl) (by kernel_rfl);have h35 := @run_callFunc_extern Tryz.prog 230 _ (ReflectliteType.relation "AssignableTo" ReflectliteType.assignableTo) Tryz.func230 (by kernel_rfl) (by kernel_rfl) (by kernel_rfl) (by kernel_rfl);have h11 := @run_callFunc_extern Tryz.prog 184 _ (ReflectliteValue.method (ReflectliteValue.valueError "reflectlite.Value.Elem" 0) ReflectliteValue.elem) Tryz.func184 (by kernel_rfl) (by kernel_rfl) (by kernel_rfl) (by kernel_rfl);have h12 := @run_callFunc_extern Tryz.prog 185 _ ReflectliteValue.set Tryz.func185 (by kernel_rfl) (by kernel_rfl) (by kernel_rfl) (by kernel_rfl);have tO := yh7;have mA := y43;have a25 := y9d;have v25 := yff;have f6 := yex;have f7 := rl_typeP;have mK := ycm;have mE := ybk;have mI := y5h;have k27 := rl_kindP;have k25 := rl_kindE;have e27 := rl_elemP;have i25 := y9l;unfold EtIs at hg;have n8 := yk0 (Y w.heap.size 0) t ((w.alloc (.cells #[.pointer (some t)] 156)).alloc (.cells #[.pointer (some (Y 1 156)),.pointer (some (Y w.heap.size 0)),.int .u64 150] 185)) (by simp)
 have hlt : 0 < w.heap.size := by
  rcases Nat.eq_zero_or_pos w.heap.size with h0 | h
  ·simp [World.cell?,h0] at hg
  ·exact h
 have hg2 : ((w.alloc (.cells #[.pointer (some t)] 156)).alloc (.cells #[.pointer (some (Y 1 156)),.pointer (some (Y w.heap.size 0)),.int .u64 150] 185)).cell? (Y 0 0) = some (.iface 222 (.agg #[.pointer (some (Y 1 31))])) := by
  rw [World.cell?_alloc_lt _ _ (Y 0 0) (by simp),World.cell?_alloc_lt _ _ (Y 0 0) hlt]; exact hg
 have htl : t.block < w.heap.size := by
  rcases Nat.lt_or_ge t.block w.heap.size with h | h
  ·exact h
  ·simp [World.cell?,Array.getElem?_eq_none h] at ht0
 have el := yj6 (Y w.heap.size 0) t (((w.alloc (.cells #[.pointer (some t)] 156)).alloc (.cells #[.pointer (some (Y 1 156)),.pointer (some (Y w.heap.size 0)),.int .u64 150] 185)).alloc (.cells #[.pointer (some (Y 1 156)),.pointer (some (Y w.heap.size 0)),.int .u64 150] 185)) (by rw [World.cell?_alloc_lt _ _ (Y w.heap.size 0) (by simp; omega)]; simp)
 have st := rl_setE t (Y (w.heap.size + 1 + 1 + 1) 0) n old ((((w.alloc (.cells #[.pointer (some t)] 156)).alloc (.cells #[.pointer (some (Y 1 156)),.pointer (some (Y w.heap.size 0)),.int .u64 150] 185)).alloc (.cells #[.pointer (some (Y 1 156)),.pointer (some (Y w.heap.size 0)),.int .u64 150] 185)).alloc (.cells #[I n] 39))
  (by rw [World.cell?_alloc_at _ _ _ _ (by simp)]; rfl)
  (by rw [World.cell?_alloc_lt _ _ t (by simp; omega),World.cell?_alloc_lt _ _ t (by simp; omega),World.cell?_alloc_lt _ _ t (by simp; omega),World.cell?_alloc_lt _ _ t htl]; exact ht0)
  (by rw [World.frozen?_alloc_old _ _ t (by simp; omega),World.frozen?_alloc_old _ _ t (by simp; omega),World.frozen?_alloc_old _ _ t (by simp; omega),World.frozen?_alloc_old _ _ t (Nat.ne_of_lt htl)]; exact hf0)
 go_enter Tryz.func103,Tryz.ntmps103
 go_wp2
 refine wp_loop_rounds 1 ?_;rw [rounds_succ];go_wp2
 go_ret
 exact ⟨rfl,rfl⟩
theorem beqI (a b : Int) : (a == b) = decide (a = b) := by by_cases h : a = b <;> simp [h]
theorem asW_kept (n : Int) (w0 w : World) (t : Addr) (k : Kept w0 w) (h : w0.heap.size ≤ t.block) : Kept w0 (asW n t w) :=
 ((((k.alloc _ _).alloc _ _).alloc _ _).alloc _ _).setCell h _
theorem asW_cell (n : Int) (w : World) (t : Addr) (old : Value) (ht0 : w.cell? t = some old) : (asW n t w).cell? t = some (I n) := by
 have htl : t.block < w.heap.size := by
  rcases Nat.lt_or_ge t.block w.heap.size with h | h
  ·exact h
  ·simp [World.cell?,Array.getElem?_eq_none h] at ht0
 exact World.cell?_setCell_same _ _ _ (by rw [World.cell?_alloc_lt _ _ t (by simp; omega),World.cell?_alloc_lt _ _ t (by simp; omega),World.cell?_alloc_lt _ _ t (by simp; omega),World.cell?_alloc_lt _ _ t htl]; exact ht0)
theorem noAt (v : Value) (w : World) : (Instr.typeAssert (.iface 39 v) 31 117 true).run Tryz.prog w = .ok (.tuple #[.pointer none,.bool false]) w := by kernel_rfl
theorem noUnwrap (v : Value) (w : World) : (Instr.typeAssert (.iface 39 v) 31 119 true).run Tryz.prog w = .ok (.tuple #[.nilIface,.bool false]) w := run_typeAssert_lacksB Tryz.underlying119 (by kernel_rfl) (by kernel_rfl) v _ w
theorem tell_nil (w : World) : Calls Tryz.prog 66 #[.nilIface] w fun e w' => e = .returned (I 0) ∧ Kept w w' := by
 go_enter Tryz.func66,Tryz.ntmps66
 go_wp2
 go_ret
 exact ⟨rfl,Kept.refl w⟩
theorem yi3 (n : Int) (w : World) (hg : EtIs w) : Calls Tryz.prog 66 #[.iface 39 (I n)] w fun e w' => e = .returned (I n) ∧ Kept w w' := by
 have HG : Hid (EtIs w) := hg;clear hg;go_enter Tryz.func66,Tryz.ntmps66
 go_wp2_with fail
 have k0 : Hid (Kept w _) := (Kept.refl w).alloc #[I 0] 39;have c0 : Hid ((w.alloc (.cells #[I 0] 39)).cell? (Y w.heap.size 0) = some (I 0) ∧ (w.alloc (.cells #[I 0] 39)).frozen? (Y w.heap.size 0) = false) := ⟨by simp,by simp⟩;revert k0 c0;generalize World.alloc w _ = w0;intro k0 c0;refine (as_hit n (Y w.heap.size 0) _ w0 (HG.out.kept k0.out) c0.out.1 c0.out.2).mono ?_;rintro e w1 ⟨rfl,rfl⟩;have k1 : Hid (Kept w _) := asW_kept n w w0 (Y w.heap.size 0) k0.out (Nat.le_refl _);have c1 := asW_cell n w0 (Y w.heap.size 0) _ c0.out.1;revert k1 c1;generalize asW n _ w0 = w1;intro k1 c1;go_wp2_with fail
 go_ret
 exact ⟨rfl,k1.out⟩
theorem ybm (w : World) : Calls Tryz.prog 35 #[.nilIface] w fun e w' => e = .returned (.tuple #[I 0,.bool true]) ∧ Kept w w' := by
 go_enter Tryz.func35,Tryz.ntmps35
 go_wp2_with fail
 refine (tell_nil w).mono ?_;rintro e w1 ⟨rfl,k1⟩;have K : Hid (Kept w w1) := k1;clear k1;go_wp2_with fail
 refine wp_loop_rounds 1 ?_;rw [rounds_succ];go_wp2_with fail
 go_ret2
 exact ⟨rfl,K.out⟩
theorem y84 (n : Int) (w : World) (hg : EtIs w) : Calls Tryz.prog 35 #[.iface 39 (I n)] w fun e w' => e = .returned (.tuple #[I n,.bool true]) ∧ Kept w w' := by
 have HG : Hid (EtIs w) := hg;clear hg;have a1 := noAt;have a2 := noUnwrap;go_enter Tryz.func35,Tryz.ntmps35
 go_wp2_with fail
 refine (yi3 n w HG.out).mono ?_;rintro e w1 ⟨rfl,k1⟩;have K : Hid (Kept w w1) := k1;clear k1;go_wp2_with fail
 refine wp_loop_rounds 1 ?_;rw [rounds_succ];go_wp2_with fail
 go_ret2
 exact ⟨rfl,K.out⟩
theorem yii (c d : Int) (w : World) (hg : EtIs w) : Calls Tryz.prog 6 #[errV c,I d] w fun e w' => e = .returned (.bool (decide (c = d))) ∧ Kept w w' := by
 have HG : Hid (EtIs w) := hg;clear hg;by_cases hc : c = 0
 ·subst hc
  rw [show errV 0 = .nilIface from rfl];go_enter Tryz.func6,Tryz.ntmps6
  go_wp2_with fail
  refine (ybm w).mono ?_;rintro e w1 ⟨rfl,k1⟩;have K : Hid (Kept w w1) := k1;clear k1;go_wp2_with fail
  go_ret
  exact ⟨y0i (beqI _ _),K.out⟩
 ·rw [show errV c = .iface 39 (I c) from if_neg hc]
  clear hc;go_enter Tryz.func6,Tryz.ntmps6
  go_wp2_with fail
  refine (y84 c w HG.out).mono ?_;rintro e w1 ⟨rfl,k1⟩;have K : Hid (Kept w w1) := k1;clear k1;go_wp2_with fail
  go_ret
  exact ⟨y0i (beqI _ _),K.out⟩
end Go.Proofs.YtbenlgandjjopaaGreatDoor
