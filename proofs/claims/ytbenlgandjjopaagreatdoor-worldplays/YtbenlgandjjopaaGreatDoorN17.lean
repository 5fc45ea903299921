/- . -/
import Derived.Test.YtbenlgandjjopaaGreatDoorN16
open Go.Value renaming int → J
open Go.IntKind renaming i64 → U
open List renaming mem_singleton → zrc
namespace Go.Proofs.YtbenlgandjjopaaGreatDoor
set_option maxRecDepth 100000
set_option maxHeartbeats 8000000
open Go.ChangeShapes Go.WideShapes Go.ChangeAt Go.RowKit
set_option linter.unusedVariables false
set_option linter.unusedSimpArgs false
variable {w w' wr : World} {g i n r : Nat} {B D : Nat → Bd} {tx ty tz : Int}
def driveB (c : Wc) (q : Bd) : Bd := if 0 < q.ms then spX q (cl 6553600 (add (add q.vx q.px) c.fx)) (cl 6553600 (add (add q.vy q.py) c.fy)) (cl 6553600 (add (add q.vz q.pz) c.fz)) else q
theorem y0s (C : Nat → Bd) (i : Nat) (b : Bd) : upd C i b i = b := by unfold upd; rw [if_pos rfl]
theorem y29 (C : Nat → Bd) (i : Nat) : upd C i (C i) = C := by funext j; unfold upd; split <;> simp_all
theorem OwnB.push (h : OwnB w g n B) (hi : i < n) {x y z : Int} (e : (B i).px = x ∧ (B i).py = y ∧ (B i).pz = z) : w.cell? (Y g (i * 17 + 12)) = some (I x) ∧ w.cell? (Y g (i * 17 + 13)) = some (I y) ∧ w.cell? (Y g (i * 17 + 14)) = some (I z) := by
 obtain ⟨rfl,rfl,rfl⟩ := e;exact ⟨h.cell hi (show 12 < 17 by omega),h.cell hi (show 13 < 17 by omega),h.cell hi (show 14 < 17 by omega)⟩
theorem yg5 (x g n i : Nat) (c : Wc) (a : Option Addr) (m cap t : Nat) (la st : Int) (B : Nat → Bd) (w : World) (hw : WorldAt w x c a m cap t la st) (h : OwnB w g n B) (hi : i < n) (hn : n ≤ 60) (hxg : x ≠ g) :
  Calls Tryz.prog 46 #[.pointer (some (Y x 0)),.pointer (some (Y g (i * 17)))] w fun e w' => e = .returned (.tuple #[]) ∧ OwnB w' g n (upd B i (driveB c (B i))) ∧ Only [g] w w' := by
 have HO : Hid (OwnB w g n B ∧ WorldAt w x c a m cap t la st ∧ x ≠ g) := ⟨h,hw,hxg⟩;have HI : Hid (i < n ∧ n ≤ 60) := ⟨hi,hn⟩;clear h hw hxg hi hn;obtain ⟨q,hq⟩ : ∃ q,q = B i := ⟨_,rfl⟩;have HQ : Hid (q = B i) := hq;have d15 := HO.out.1.cell HI.out.1 (show 15 < 17 by omega);rw [← hq] at d15;simp only [bc] at d15;clear hq;go_enter Tryz.func46,Tryz.ntmps46
 by_cases hms : 0 < q.ms
 ·go_upto_region 1 with fail
  clear d15
  have HLD : Hid (∀ w',Kept w w' → w'.cell? (Y g (i * 17 + 9)) = some (I q.vx) ∧ w'.cell? (Y g (i * 17 + 10)) = some (I q.vy) ∧ w'.cell? (Y g (i * 17 + 11)) = some (I q.vz)) := fun w' o => by
   rw [HQ.out];exact ⟨y00 o (HO.out.1.cell HI.out.1 (show 9 < 17 by omega)),y00 o (HO.out.1.cell HI.out.1 (show 10 < 17 by omega)),y00 o (HO.out.1.cell HI.out.1 (show 11 < 17 by omega))⟩
  have HKO : Hid (∀ w',Only [g] w w' → (w'.cell? (Y g (i * 17 + 12)) = some (I q.px) ∧ w'.cell? (Y g (i * 17 + 13)) = some (I q.py) ∧ w'.cell? (Y g (i * 17 + 14)) = some (I q.pz)) → Only [g] w w' ∧ (w'.cell? (Y x 0) = some (I c.fx) ∧ w'.cell? (Y x 1) = some (I c.fy) ∧ w'.cell? (Y x 2) = some (I c.fz)) ∧ w'.cell? (Y g (i * 17 + 12)) = some (I q.px) ∧ w'.cell? (Y g (i * 17 + 13)) = some (I q.py) ∧ w'.cell? (Y g (i * 17 + 14)) = some (I q.pz)) := fun w' o hp => ⟨o,⟨y03 o (HO.out.2.1.off 0) (by simp only [zrc]; exact HO.out.2.2),y03 o (HO.out.2.1.off 1) (by simp only [zrc]; exact HO.out.2.2),y03 o (HO.out.2.1.off 2) (by simp only [zrc]; exact HO.out.2.2)⟩,hp⟩;have HK : Hid (∀ w',Kept w w' → Only [g] w w' ∧ (w'.cell? (Y x 0) = some (I c.fx) ∧ w'.cell? (Y x 1) = some (I c.fy) ∧ w'.cell? (Y x 2) = some (I c.fz)) ∧ w'.cell? (Y g (i * 17 + 12)) = some (I q.px) ∧ w'.cell? (Y g (i * 17 + 13)) = some (I q.py) ∧ w'.cell? (Y g (i * 17 + 14)) = some (I q.pz)) := fun w' k => HKO.out w' (Only.of_kept k) ((HO.out.1.only (Only.of_kept (D := []) k) (by simp)).push HI.out.1 (by rw [← HQ.out]; exact ⟨rfl,rfl,rfl⟩));refine wp_region_held_drew (S := (fun w' => Only [g] w w' ∧ (Zc w' x 0 c.fx ∧ Zc w' x 1 c.fy ∧ Zc w' x 2 c.fz) ∧ Zc w' g (i * 17 + 12) q.px ∧ Zc w' g (i * 17 + 13) q.py ∧ Zc w' g (i * 17 + 14) q.pz)) (by kernel_rfl) ?_ (fun hJ1 => ?_)
  ·exact HK.out _ kd
  refine tkU 0 (h:=tkU 1 (h:=tkU 2 (h:=tkV 3 ?_)));try simp only [zP]
  refine tkU 5 (h:=tkU 6 (h:=tkU 7 (h:=tkV 8 ?_)));try simp only [zP]
  refine tkU 10 (h:=tkU 11 (h:=tkU 12 (h:=tkV 13 ?_)));try simp only [zP]
  refine tkV 14 ?_;try simp only [zP]
  refine rdW 4 rfl fun K hK => ?_;obtain ⟨l0,l1,l2⟩ := HLD.out _ (Kept.refl w).drew;simp only [zQ];go_simp;clear l0 l1 l2;refine hK.out _ _ ?_ fun hH1 => ?_
  ·exact HK.out _ (Kept.refl w).drew
  clear hK K hJ1;try simp only [zP]
  refine rdW 9 rfl fun K hK => ?_;simp only [zQ];go_simp
  (go_at_call 73; refine (y1y _ _ _ _ _ _ _).mono ?_; rintro e w2 ⟨rfl,k2⟩)
  try go_wp2_with fail
  refine hK.out _ _ ?_ fun hH2 => ?_
  ·exact HK.out _ ((Kept.refl w).drew.trans k2)
  clear hK K hH1;try simp only [zP]
  refine rdW 15 rfl fun K hK => ?_;simp only [zQ];go_simp
  (go_at_call 73; refine (y1y _ _ _ _ _ _ _).mono ?_; rintro e w3 ⟨rfl,k3⟩)
  try go_wp2_with fail
  refine hK.out _ _ ?_ fun hH3 => ?_
  ·exact HK.out _ (((Kept.refl w).drew.trans k2).trans k3)
  clear hK K hH2;try simp only [zP]
  refine rdW 16 rfl fun K hK => ?_;simp only [zQ];go_simp
  (go_at_call 62; refine (y28 _ _ _ _ _ (by decide)).mono ?_; rintro e w4 ⟨rfl,k4⟩)
  try go_wp2_with fail
  refine hK.out _ _ ?_ fun hH4 => ?_
  ·exact HK.out _ ((((Kept.refl w).drew.trans k2).trans k3).trans k4)
  clear hK K hH3;try simp only [zP]
  simp only [y3s];have K4 : Hid (Kept w w4) := (((Kept.refl w).drew.trans k2).trans k3).trans k4;clear k2 k3 k4;obtain ⟨e6,e7,e8⟩ := HLD.out _ K4.out;have f6 := y01 K4.out (HO.out.1.free (i * 17 + 9)); have f7 := y01 K4.out (HO.out.1.free (i * 17 + 10)); have f8 := y01 K4.out (HO.out.1.free (i * 17 + 11));refine tkU 17 (h:=tkV 18 ?_);try simp only [zP]
  have HFN : Hid (OwnB (((w4.setCell (Y g (i * 17 + 9)) (I (cl 6553600 (add (add q.vx q.px) c.fx)))).setCell (Y g (i * 17 + 10)) (I (cl 6553600 (add (add q.vy q.py) c.fy)))).setCell (Y g (i * 17 + 11)) (I (cl 6553600 (add (add q.vz q.pz) c.fz)))) g n (upd B i (driveB c (B i))) ∧ Only [g] w (((w4.setCell (Y g (i * 17 + 9)) (I (cl 6553600 (add (add q.vx q.px) c.fx)))).setCell (Y g (i * 17 + 10)) (I (cl 6553600 (add (add q.vy q.py) c.fy)))).setCell (Y g (i * 17 + 11)) (I (cl 6553600 (add (add q.vz q.pz) c.fz))))) := by
   refine ⟨?_,(((Only.of_kept K4.out).setCell (p := Y g (i * 17 + 9)) (Or.inl (by simp)) _).setCell (p := Y g (i * 17 + 10)) (Or.inl (by simp)) _).setCell (p := Y g (i * 17 + 11)) (Or.inl (by simp)) _⟩;have h1 := (HO.out.1.only (Only.of_kept (D := []) K4.out) (by simp)).putSp HI.out.1 (cl 6553600 (add (add q.vx q.px) c.fx)) (cl 6553600 (add (add q.vy q.py) c.fy)) (cl 6553600 (add (add q.vz q.pz) c.fz));have e1 : driveB c (B i) = spX (B i) (cl 6553600 (add (add q.vx q.px) c.fx)) (cl 6553600 (add (add q.vy q.py) c.fy)) (cl 6553600 (add (add q.vz q.pz) c.fz)) := by rw [← HQ.out]; unfold driveB; rw [if_pos hms]
   rw [e1]; exact h1
  refine rdW 19 rfl fun K hK => ?_;simp only [zQ];go_simp;refine hK.out _ _ ?_ fun hH5 => ?_
  ·exact HKO.out _ HFN.out.2 (HFN.out.1.push HI.out.1 (by show (upd B i (driveB c (B i)) i).px = q.px ∧ (upd B i (driveB c (B i)) i).py = q.py ∧ (upd B i (driveB c (B i)) i).pz = q.pz; rw [y0s,← HQ.out]; unfold driveB; rw [if_pos hms]; exact ⟨rfl,rfl,rfl⟩))
  clear hK K;try simp only [zP]
  refine wpAnyH_done (by kernel_rfl) ?_ _;clear e6 e7 e8 f6 f7 f8 K4 hH5 hH4;go_wp2_with fail
  refine bodyPost_end (results_none rfl _ _ _) rfl ?_;exact ⟨rfl,HFN.out.1,HFN.out.2⟩
 ·have HE : Hid (driveB c (B i) = B i) := by show driveB c (B i) = B i; rw [← HQ.out]; unfold driveB; rw [if_neg hms]
  go_wp2_with fail
  refine bodyPost_end (results_none rfl _ _ _) rfl ?_;exact ⟨rfl,by rw [HE.out,y29]; exact HO.out.1,Only.refl _ _⟩
def setX (b : Bd) (x : Int) : Bd := { b with vx := x }
theorem OwnB.putX (h : OwnB w g n B) (hi : i < n) (x : Int) : OwnB (w.setCell (Y g (i * 17 + 9)) (J U x)) g n (upd B i (setX (B i) x)) := by
 have h1 := RowF.set (F := fun j k => bc (B j) k) h hi (show 9 < 17 by omega) (J U x);refine RowF.congr h1 (fun j k hj hk => ?_);by_cases e : j = i
 ·subst e
  rw [y40,if_pos rfl]
  match k,hk with
  | 0,_ => simp [bc,setX]
  | 1,_ => simp [bc,setX]
  | 2,_ => simp [bc,setX]
  | 3,_ => simp [bc,setX]
  | 4,_ => simp [bc,setX]
  | 5,_ => simp [bc,setX]
  | 6,_ => simp [bc,setX]
  | 7,_ => simp [bc,setX]
  | 8,_ => simp [bc,setX]
  | 9,_ => simp [bc,setX]
  | 10,_ => simp [bc,setX]
  | 11,_ => simp [bc,setX]
  | 12,_ => simp [bc,setX]
  | 13,_ => simp [bc,setX]
  | 14,_ => simp [bc,setX]
  | 15,_ => simp [bc,setX]
  | 16,_ => simp [bc,setX]
  | k + 17,h => exact absurd h (by omega)
 ·rw [y40]; simp [e]
def setY (b : Bd) (x : Int) : Bd := { b with vy := x }
theorem OwnB.putY (h : OwnB w g n B) (hi : i < n) (x : Int) : OwnB (w.setCell (Y g (i * 17 + 10)) (J U x)) g n (upd B i (setY (B i) x)) := by
 have h1 := RowF.set (F := fun j k => bc (B j) k) h hi (show 10 < 17 by omega) (J U x);refine RowF.congr h1 (fun j k hj hk => ?_);by_cases e : j = i
 ·subst e
  rw [y40,if_pos rfl]
  match k,hk with
  | 0,_ => simp [bc,setY]
  | 1,_ => simp [bc,setY]
  | 2,_ => simp [bc,setY]
  | 3,_ => simp [bc,setY]
  | 4,_ => simp [bc,setY]
  | 5,_ => simp [bc,setY]
  | 6,_ => simp [bc,setY]
  | 7,_ => simp [bc,setY]
  | 8,_ => simp [bc,setY]
  | 9,_ => simp [bc,setY]
  | 10,_ => simp [bc,setY]
  | 11,_ => simp [bc,setY]
  | 12,_ => simp [bc,setY]
  | 13,_ => simp [bc,setY]
  | 14,_ => simp [bc,setY]
  | 15,_ => simp [bc,setY]
  | 16,_ => simp [bc,setY]
  | k + 17,h => exact absurd h (by omega)
 ·rw [y40]; simp [e]
def setZ (b : Bd) (x : Int) : Bd := { b with vz := x }
theorem OwnB.putZ (h : OwnB w g n B) (hi : i < n) (x : Int) : OwnB (w.setCell (Y g (i * 17 + 11)) (J U x)) g n (upd B i (setZ (B i) x)) := by
 have h1 := RowF.set (F := fun j k => bc (B j) k) h hi (show 11 < 17 by omega) (J U x);refine RowF.congr h1 (fun j k hj hk => ?_);by_cases e : j = i
 ·subst e
  rw [y40,if_pos rfl]
  match k,hk with
  | 0,_ => simp [bc,setZ]
  | 1,_ => simp [bc,setZ]
  | 2,_ => simp [bc,setZ]
  | 3,_ => simp [bc,setZ]
  | 4,_ => simp [bc,setZ]
  | 5,_ => simp [bc,setZ]
  | 6,_ => simp [bc,setZ]
  | 7,_ => simp [bc,setZ]
  | 8,_ => simp [bc,setZ]
  | 9,_ => simp [bc,setZ]
  | 10,_ => simp [bc,setZ]
  | 11,_ => simp [bc,setZ]
  | 12,_ => simp [bc,setZ]
  | 13,_ => simp [bc,setZ]
  | 14,_ => simp [bc,setZ]
  | 15,_ => simp [bc,setZ]
  | 16,_ => simp [bc,setZ]
  | k + 17,h => exact absurd h (by omega)
 ·rw [y40]; simp [e]
def moveB (q : Bd) : Bd := { q with ax := cl 65536000 (add q.ax q.vx),ay := cl 65536000 (add q.ay q.vy),az := cl 65536000 (add q.az q.vz),vx := if cl 65536000 (add q.ax q.vx) = add q.ax q.vx then q.vx else 0,vy := if cl 65536000 (add q.ay q.vy) = add q.ay q.vy then q.vy else 0,vz := if cl 65536000 (add q.az q.vz) = add q.az q.vz then q.vz else 0 }
theorem y2x (C : Nat → Bd) (i : Nat) (b d : Bd) : upd (upd C i b) i d = upd C i d := by funext j; unfold upd; split <;> rfl
def MovAt (g i : Nat) (q : Bd) (w' : World) : Prop := w'.cell? ⟨g,i * 17 + 6,none⟩ = some (J U q.ax) ∧ w'.cell? ⟨g,i * 17 + 7,none⟩ = some (J U q.ay) ∧ w'.cell? ⟨g,i * 17 + 8,none⟩ = some (J U q.az) ∧ w'.cell? ⟨g,i * 17 + 9,none⟩ = some (J U q.vx) ∧ w'.cell? ⟨g,i * 17 + 10,none⟩ = some (J U q.vy) ∧ w'.cell? ⟨g,i * 17 + 11,none⟩ = some (J U q.vz)
theorem MovAt.step {q : Bd} (h : MovAt g i q w) (k : Kept w w') : MovAt g i q w' := ⟨y00 k h.1,y00 k h.2.1,y00 k h.2.2.1,y00 k h.2.2.2.1,y00 k h.2.2.2.2.1,y00 k h.2.2.2.2.2⟩
structure MW (w : World) (g n i r : Nat) (D : Nat → Bd) (tx ty tz : Int) (wr : World) : Prop where
 own : OwnB wr g n D
 t0 : wr.cell? ⟨r,0,none⟩ = some (J U tx)
 t1 : wr.cell? ⟨r,1,none⟩ = some (J U ty)
 t2 : wr.cell? ⟨r,2,none⟩ = some (J U tz)
 only : Only [g] w wr
 nr : r ≠ g
theorem MW.drew (h : MW w g n i r D tx ty tz wr) (k : Nat) : MW w g n i r D tx ty tz (wr.drewN k) :=
 ⟨h.own.only (D := []) (Only.drewN wr k) (by simp),y09 (Only.drewN wr k) h.t0,y09 (Only.drewN wr k) h.t1,y09 (Only.drewN wr k) h.t2,h.only.trans (Only.drewN wr k),h.nr⟩
theorem MW.turn {E : Nat → Bd} (h : MW w g n i r D tx ty tz wr) (hO : OwnB w' g n E) (o : Only [g] wr w') : MW w g n i r E tx ty tz w' :=
 ⟨hO,y03 o h.t0 (by simp only [zrc]; exact h.nr),y03 o h.t1 (by simp only [zrc]; exact h.nr),y03 o h.t2 (by simp only [zrc]; exact h.nr),h.only.trans o,h.nr⟩
theorem yi1 (g n i : Nat) (B : Nat → Bd) (w : World) (h : OwnB w g n B) (hi : i < n) (hn : n ≤ 60) :
  Calls Tryz.prog 48 #[.pointer (some (Y g (i * 17)))] w fun e w' => e = .returned (.tuple #[]) ∧ OwnB w' g n (upd B i (moveB (B i))) ∧ Only [g] w w' := by
 have HO : Hid (OwnB w g n B) := h;have HI : Hid (i < n ∧ n ≤ 60) := ⟨hi,hn⟩;clear h hi hn;obtain ⟨q,hq⟩ : ∃ q,q = B i := ⟨_,rfl⟩;have HQ : Hid (q = B i) := hq
 have HA : MovAt g i q w := by
  rw [hq];exact ⟨HO.out.cell HI.out.1 (show 6 < 17 by omega),HO.out.cell HI.out.1 (show 7 < 17 by omega),HO.out.cell HI.out.1 (show 8 < 17 by omega),HO.out.cell HI.out.1 (show 9 < 17 by omega),HO.out.cell HI.out.1 (show 10 < 17 by omega),HO.out.cell HI.out.1 (show 11 < 17 by omega)⟩
 clear hq;go_enter Tryz.func48,Tryz.ntmps48
 go_upto_region 0 with fail
 go_cut [2] from 3 to 54 (fun s2 wc => ∃ r,s2 = .pointer (some (Y r 0)) ∧ Kept w wc ∧ w.heap.size ≤ r ∧ wc.cell? (Y r 0) = some (I (add q.ax q.vx)) ∧ wc.cell? (Y r 1) = some (I (add q.ay q.vy)) ∧ wc.cell? (Y r 2) = some (I (add q.az q.vz)))
 case first =>
  as_aux_lemma =>
   refine wp_region_held_drew (S := fun w' => Kept w w' ∧ (Zc w' g (i * 17 + 6) q.ax ∧ Zc w' g (i * 17 + 7) q.ay ∧ Zc w' g (i * 17 + 8) q.az ∧ Zc w' g (i * 17 + 9) q.vx ∧ Zc w' g (i * 17 + 10) q.vy ∧ Zc w' g (i * 17 + 11) q.vz)) (by kernel_rfl) ?_ (fun hH0 => ?_)
   ·exact ⟨kd,HA.step kd⟩
   refine tkU 0 (h:=tkU 1 (h:=tkU 2 (h:=tkV 3 ?_)));try simp only [zP]
   refine tkU 4 (h:=tkU 5 (h:=tkU 6 (h:=tkV 7 ?_)));try simp only [zP]
   refine wpAnyH_ready (rs := [8,9]) (by kernel_rfl) (by simp) ?_;refine AllReadyH.cons rfl (fun K hK => ?_) (AllReadyH.cons rfl (fun K hK => ?_) AllReadyH.nil)
   ·rw [if_pos (by rfl)]
    simp only [zQ];go_simp
    (go_at_call 73; refine (y1y _ _ _ _ _ _ _).mono ?_; rintro e wc1 ⟨rfl,kc1⟩)
    try go_wp2_with fail
    refine hK.out _ _ ?_ fun hH1 => ?_
    ·exact ⟨hH0.1.trans kc1,HA.step (hH0.1.trans kc1)⟩
    clear hK K hH0;try simp only [zP]
    refine rdW 9 rfl fun K hK => ?_;simp only [zQ];go_simp;refine hK.out _ _ ?_ fun hH2 => ?_
    ·exact ⟨hH1.1.alloc _ _,HA.step (hH1.1.alloc _ _)⟩
    have hp : w.heap.size ≤ wc1.heap.size := Nat.le_trans hH1.1.below.size (Nat.le_of_eq (by simp));have hP : FrS3 w (wc1.heap.size) (wc1.alloc (.cells #[I 0,I 0,I 0] 23)) := by refine ⟨hH1.1.alloc _ _,y02 (v := I 0) ?_,y02 (v := I 0) ?_,y02 (v := I 0) ?_,?_,?_,?_⟩ <;> go_simp
    clear hK K hH1;try simp only [zP]
    generalize (wc1.alloc (.cells #[I 0,I 0,I 0] 23)) = wz3 at hH2 hP ⊢;have hP0 := hP;obtain ⟨_,cp0,cp1,cp2,fp0,fp1,fp2⟩ := hP0;refine rdW 10 rfl fun K hK => ?_;simp only [zQ];go_simp;refine hK.out _ _ ?_ fun hS1 => ?_
    ·exact ⟨y07 hH2.1 hp _ _ _,HA.step (y07 hH2.1 hp _ _ _)⟩
    clear hK K;try simp only [zP]
    refine wpAnyH_done (by kernel_rfl) ?_ _;obtain ⟨s0,s1,s2⟩ := y0b (v0 := I (add q.ax q.vx)) (v1 := I (add q.ay q.vy)) (v2 := I (add q.az q.vz)) cp0 cp1 cp2;go_wp2_with fail
    go_meet
    case rel => exact ⟨_,rfl,hS1.1,hp,s0,s1,s2⟩
   ·rw [if_pos (by rfl)]
    simp only [zQ];go_simp;refine hK.out _ _ ?_ fun hH4 => ?_
    ·exact ⟨hH0.1.alloc _ _,HA.step (hH0.1.alloc _ _)⟩
    have hp : w.heap.size ≤ w.heap.size := Nat.le_trans hH0.1.below.size (Nat.le_of_eq (by simp));have hP : FrS3 w (w.heap.size) (w.drew.alloc (.cells #[I 0,I 0,I 0] 23)) := by refine ⟨hH0.1.alloc _ _,y02 (v := I 0) ?_,y02 (v := I 0) ?_,y02 (v := I 0) ?_,?_,?_,?_⟩ <;> go_simp
    clear hK K hH0;try simp only [zP]
    refine rdW 8 rfl fun K hK => ?_;simp only [zQ];go_simp
    (go_at_call 73; refine (y1y _ _ _ _ _ _ _).mono ?_; rintro e wc5 ⟨rfl,kc5⟩)
    try go_wp2_with fail
    refine hK.out _ _ ?_ fun hH5 => ?_
    ·exact ⟨hH4.1.trans kc5,HA.step (hH4.1.trans kc5)⟩
    replace hP := hP.step kc5;clear hK K hH4;try simp only [zP]
    have hP0 := hP;obtain ⟨_,cp0,cp1,cp2,fp0,fp1,fp2⟩ := hP0;refine rdW 10 rfl fun K hK => ?_;simp only [zQ];go_simp;refine hK.out _ _ ?_ fun hS1 => ?_
    ·exact ⟨y07 hH5.1 hp _ _ _,HA.step (y07 hH5.1 hp _ _ _)⟩
    clear hK K;try simp only [zP]
    refine wpAnyH_done (by kernel_rfl) ?_ _;obtain ⟨s0,s1,s2⟩ := y0b (v0 := I (add q.ax q.vx)) (v1 := I (add q.ay q.vy)) (v2 := I (add q.az q.vz)) cp0 cp1 cp2;go_wp2_with fail
    go_meet
    case rel => exact ⟨_,rfl,hS1.1,hp,s0,s1,s2⟩
 case rest =>
  obtain ⟨r,rfl,k0,hr,s0,s1,s2⟩ := hcut;have hrg : r ≠ g := by have := HO.out.lt; omega
  obtain ⟨A0,hA0⟩ : ∃ z,z = add q.ax q.vx := ⟨_,rfl⟩;obtain ⟨A1,hA1⟩ : ∃ z,z = add q.ay q.vy := ⟨_,rfl⟩;obtain ⟨A2,hA2⟩ : ∃ z,z = add q.az q.vz := ⟨_,rfl⟩;rw [← hA0] at s0;rw [← hA1] at s1;rw [← hA2] at s2;have HT : Hid (A0 = add q.ax q.vx ∧ A1 = add q.ay q.vy ∧ A2 = add q.az q.vz) := ⟨hA0,hA1,hA2⟩;have H0 : Hid (MW w g n i r B A0 A1 A2 wc) := ⟨HO.out.only (Only.of_kept (D := []) k0) (by simp),s0,s1,s2,Only.of_kept k0,hrg⟩;clear hA0 hA1 hA2 k0 hr HA hrg;obtain ⟨w1,hw1⟩ : ∃ w1,w1 = wc := ⟨_,rfl⟩;subst hw1;go_wp2_with fail
  refine (y28 _ _ _ _ _ (by decide)).mono ?_;rintro e w2 ⟨rfl,k2⟩;simp only [y25];have H2 : Hid (MW w g n i r B A0 A1 A2 w2) := ⟨H0.out.own.only (Only.of_kept (D := []) k2) (by simp),y00 k2 s0,y00 k2 s1,y00 k2 s2,H0.out.only.trans (Only.of_kept k2),H0.out.nr⟩;clear s0 s1 s2 k2 H0;have c6 := H2.out.own.cell HI.out.1 (show 6 < 17 by omega); have c7 := H2.out.own.cell HI.out.1 (show 7 < 17 by omega); have c8 := H2.out.own.cell HI.out.1 (show 8 < 17 by omega);simp only [bc] at c6 c7 c8;have f6 := H2.out.own.free (i * 17 + 6); have f7 := H2.out.own.free (i * 17 + 7); have f8 := H2.out.own.free (i * 17 + 8);go_upto_region 2 with fail
  obtain ⟨D1,hD1⟩ : ∃ D,D = upd B i (atX q (cl 65536000 A0) (cl 65536000 A1) (cl 65536000 A2)) := ⟨_,rfl⟩;have HD1 : Hid (D1 = upd B i (atX q (cl 65536000 A0) (cl 65536000 A1) (cl 65536000 A2))) := hD1
  have H3 : Hid (MW w g n i r D1 A0 A1 A2 (((w2.setCell (Y g (i * 17 + 6)) (I (cl 65536000 A0))).setCell (Y g (i * 17 + 7)) (I (cl 65536000 A1))).setCell (Y g (i * 17 + 8)) (I (cl 65536000 A2)))) := by
   have h1 := H2.out.own.putAt HI.out.1 (cl 65536000 A0) (cl 65536000 A1) (cl 65536000 A2);rw [← HQ.out,← hD1] at h1;exact H2.out.turn h1 ((((Only.refl [g] w2).setCell (p := Y g (i * 17 + 6)) (Or.inl (by simp)) _).setCell (p := Y g (i * 17 + 7)) (Or.inl (by simp)) _).setCell (p := Y g (i * 17 + 8)) (Or.inl (by simp)) _)
  clear c6 c7 c8 f6 f7 f8 H2 hD1;revert H3;generalize World.setCell (World.setCell (World.setCell w2 _ _) _ _) _ _ = w3;intro H3;obtain ⟨C0,hC0⟩ : ∃ z,z = cl 65536000 A0 := ⟨_,rfl⟩;obtain ⟨C1,hC1⟩ : ∃ z,z = cl 65536000 A1 := ⟨_,rfl⟩;obtain ⟨C2,hC2⟩ : ∃ z,z = cl 65536000 A2 := ⟨_,rfl⟩;rw [← hC0,← hC1,← hC2] at HD1;have HC : Hid (C0 = cl 65536000 A0 ∧ C1 = cl 65536000 A1 ∧ C2 = cl 65536000 A2) := ⟨hC0,hC1,hC2⟩;clear hC0 hC1 hC2
  have HFIN : Hid (∀ E wz,E = spX (D1 i) (if C0 = A0 then q.vx else 0) (if C1 = A1 then q.vy else 0) (if C2 = A2 then q.vz else 0) → OwnB wz g n (upd D1 i E) → OwnB wz g n (upd B i (moveB (B i)))) := fun E wz hE hw => by
   have e1 : upd B i (moveB (B i)) = upd D1 i E := by
    rw [hE,HD1.out,y0s,y2x,HC.out.1,HC.out.2.1,HC.out.2.2,HT.out.1,HT.out.2.1,HT.out.2.2,← HQ.out];rfl
   rw [e1]; exact hw
  have c6 := H3.out.own.cell HI.out.1 (show 6 < 17 by omega); have c7 := H3.out.own.cell HI.out.1 (show 7 < 17 by omega); have c8 := H3.out.own.cell HI.out.1 (show 8 < 17 by omega);have HDI : Hid (D1 i = atX q C0 C1 C2) := by show D1 i = _; rw [HD1.out,y0s]
  rw [HDI.out] at c6 c7 c8;simp only [bc,atX] at c6 c7 c8;have s0 := H3.out.t0; have s1 := H3.out.t1; have s2 := H3.out.t2;clear HD1 HC HT;by_cases h0 : C0 = A0
  ·have b0 : (C0 == A0) = true := by simpa using h0
   by_cases h1 : C1 = A1
   ·have b1 : (C1 == A1) = true := by simpa using h1
    by_cases h2 : C2 = A2
    ·have b2 : (C2 == A2) = true := by simpa using h2
     as_aux_lemma =>
      have HE : Hid (D1 = upd D1 i (D1 i)) := (y29 D1 i).symm;go_quiet (fail)
      go_wp2_with fail
      refine bodyPost_ret (results_none rfl _ _ _) rfl ?_;refine ⟨rfl,HFIN.out (D1 i) _ (by rw [HDI.out]; simp [h0,h1,h2]; rfl) (by rw [← HE.out]; exact (H3.out.drew _).own),(H3.out.drew _).only⟩
    ·have b2 : (C2 == A2) = false := by simpa using h2
     as_aux_lemma =>
      go_quiet (fail)
      have H4 := H3.out.drew nq;revert H4;generalize World.drewN w3 nq = w4;intro H4;clear c6 c7 c8 s0 s1 s2 H3;have HM0 : Hid (MW w g n i r D1 A0 A1 A2 w4) := H4;clear H4;have HE0 : Hid (D1 i = spX (D1 i) q.vx q.vy q.vz ∧ upd D1 i (D1 i) = D1) := ⟨by rw [HDI.out]; rfl,y29 D1 i⟩;have p0 := HM0.out.own.cell HI.out.1 (show 6 < 17 by omega); have t0 := HM0.out.t0;skip;rw [HDI.out] at p0;simp only [bc,spX,atX] at p0;skip;go_upto_region 3 with fail
      go_quiet (fail)
      clear p0 t0;have HN0 : Hid (MW w g n i r D1 A0 A1 A2 (World.drewN w4 nq)) := HM0.out.drew nq;revert HN0;generalize World.drewN w4 nq = v0;intro HN0;clear HM0;have p1 := HN0.out.own.cell HI.out.1 (show 7 < 17 by omega); have t1 := HN0.out.t1;skip;rw [HDI.out] at p1;simp only [bc,spX,atX] at p1;skip;go_upto_region 5 with fail
      go_quiet (fail)
      clear p1 t1;have HN1 : Hid (MW w g n i r D1 A0 A1 A2 (World.drewN v0 nq)) := HN0.out.drew nq;revert HN1;generalize World.drewN v0 nq = v1;intro HN1;clear HN0;have p2 := HN1.out.own.cell HI.out.1 (show 8 < 17 by omega); have t2 := HN1.out.t2;skip;rw [HDI.out] at p2;simp only [bc,spX,atX] at p2;skip;go_upto_region 7 with fail
      go_quiet (fail)
      clear p2 t2;have HN2 : Hid (MW w g n i r D1 A0 A1 A2 (World.drewN v1 nq)) := HN1.out.drew nq;revert HN2;generalize World.drewN v1 nq = v2;intro HN2;clear HN1;have c := HN2.out.own.cell HI.out.1 (show 11 < 17 by omega); have f := HN2.out.own.free (i * 17 + 11);simp only [bc] at c;obtain ⟨E2,hE2⟩ : ∃ E,E = upd D1 i (setZ (D1 i) 0) := ⟨_,rfl⟩;have HS2 : Hid (MW w g n i r E2 A0 A1 A2 (World.setCell v2 (Y g (i * 17 + 11)) (I 0))) := by rw [hE2]; exact HN2.out.turn (HN2.out.own.putZ HI.out.1 0) ((Only.refl [g] v2).setCell (p := Y g (i * 17 + 11)) (Or.inl (by simp)) _)
      have HB3 : Hid (E2 i = spX (atX q C0 C1 C2) (q.vx) (q.vy) (0)) := by show E2 i = _; rw [hE2,y0s,HDI.out]; rfl
      have HU3 : Hid (upd D1 i (E2 i) = E2) := by show upd D1 i (E2 i) = E2; rw [hE2,y0s]
      go_wp2_with fail
      refine bodyPost_end (results_none rfl _ _ _) rfl ?_;refine ⟨rfl,HFIN.out (E2 i) _ (by rw [HDI.out,HB3.out]; simp [h0,h1,h2]) (by rw [HU3.out]; exact HS2.out.own),HS2.out.only⟩
   ·have b1 : (C1 == A1) = false := by simpa using h1
    by_cases h2 : C2 = A2
    ·have b2 : (C2 == A2) = true := by simpa using h2
     as_aux_lemma =>
      go_quiet (fail)
      have H4 := H3.out.drew nq;revert H4;generalize World.drewN w3 nq = w4;intro H4;clear c6 c7 c8 s0 s1 s2 H3;have HM0 : Hid (MW w g n i r D1 A0 A1 A2 w4) := H4;clear H4;have HE0 : Hid (D1 i = spX (D1 i) q.vx q.vy q.vz ∧ upd D1 i (D1 i) = D1) := ⟨by rw [HDI.out]; rfl,y29 D1 i⟩;have p0 := HM0.out.own.cell HI.out.1 (show 6 < 17 by omega); have t0 := HM0.out.t0;skip;rw [HDI.out] at p0;simp only [bc,spX,atX] at p0;skip;go_upto_region 3 with fail
      go_quiet (fail)
      clear p0 t0;have HN0 : Hid (MW w g n i r D1 A0 A1 A2 (World.drewN w4 nq)) := HM0.out.drew nq;revert HN0;generalize World.drewN w4 nq = v0;intro HN0;clear HM0;have p1 := HN0.out.own.cell HI.out.1 (show 7 < 17 by omega); have t1 := HN0.out.t1;skip;rw [HDI.out] at p1;simp only [bc,spX,atX] at p1;skip;go_upto_region 5 with fail
      go_quiet (fail)
      clear p1 t1;have HN1 : Hid (MW w g n i r D1 A0 A1 A2 (World.drewN v0 nq)) := HN0.out.drew nq;revert HN1;generalize World.drewN v0 nq = v1;intro HN1;clear HN0;have c := HN1.out.own.cell HI.out.1 (show 10 < 17 by omega); have f := HN1.out.own.free (i * 17 + 10);simp only [bc] at c;obtain ⟨E1,hE1⟩ : ∃ E,E = upd D1 i (setY (D1 i) 0) := ⟨_,rfl⟩;have HS1 : Hid (MW w g n i r E1 A0 A1 A2 (World.setCell v1 (Y g (i * 17 + 10)) (I 0))) := by rw [hE1]; exact HN1.out.turn (HN1.out.own.putY HI.out.1 0) ((Only.refl [g] v1).setCell (p := Y g (i * 17 + 10)) (Or.inl (by simp)) _)
      have HB2 : Hid (E1 i = spX (atX q C0 C1 C2) (q.vx) (0) (q.vz)) := by show E1 i = _; rw [hE1,y0s,HDI.out]; rfl
      have HU2 : Hid (upd D1 i (E1 i) = E1) := by show upd D1 i (E1 i) = E1; rw [hE1,y0s]
      clear hE1;go_upto_region 7 with fail
      clear c f;revert HS1;generalize World.setCell v1 _ _ = x1;intro HS1;clear HN1;have p2 := HS1.out.own.cell HI.out.1 (show 8 < 17 by omega); have t2 := HS1.out.t2;skip;rw [HB2.out] at p2;simp only [bc,spX,atX] at p2;skip;go_upto_region 7 with fail
      go_quiet (fail)
      clear p2 t2;have HN2 : Hid (MW w g n i r E1 A0 A1 A2 (World.drewN x1 nq)) := HS1.out.drew nq;revert HN2;generalize World.drewN x1 nq = v2;intro HN2;clear HS1;go_wp2_with fail
      refine bodyPost_end (results_none rfl _ _ _) rfl ?_;refine ⟨rfl,HFIN.out (E1 i) _ (by rw [HDI.out,HB2.out]; simp [h0,h1,h2]) (by rw [HU2.out]; exact HN2.out.own),HN2.out.only⟩
    ·have b2 : (C2 == A2) = false := by simpa using h2
     as_aux_lemma =>
      go_quiet (fail)
      have H4 := H3.out.drew nq;revert H4;generalize World.drewN w3 nq = w4;intro H4;clear c6 c7 c8 s0 s1 s2 H3;have HM0 : Hid (MW w g n i r D1 A0 A1 A2 w4) := H4;clear H4;have HE0 : Hid (D1 i = spX (D1 i) q.vx q.vy q.vz ∧ upd D1 i (D1 i) = D1) := ⟨by rw [HDI.out]; rfl,y29 D1 i⟩;have p0 := HM0.out.own.cell HI.out.1 (show 6 < 17 by omega); have t0 := HM0.out.t0;skip;rw [HDI.out] at p0;simp only [bc,spX,atX] at p0;skip;go_upto_region 3 with fail
      go_quiet (fail)
      clear p0 t0;have HN0 : Hid (MW w g n i r D1 A0 A1 A2 (World.drewN w4 nq)) := HM0.out.drew nq;revert HN0;generalize World.drewN w4 nq = v0;intro HN0;clear HM0;have p1 := HN0.out.own.cell HI.out.1 (show 7 < 17 by omega); have t1 := HN0.out.t1;skip;rw [HDI.out] at p1;simp only [bc,spX,atX] at p1;skip;go_upto_region 5 with fail
      go_quiet (fail)
      clear p1 t1;have HN1 : Hid (MW w g n i r D1 A0 A1 A2 (World.drewN v0 nq)) := HN0.out.drew nq;revert HN1;generalize World.drewN v0 nq = v1;intro HN1;clear HN0;have c := HN1.out.own.cell HI.out.1 (show 10 < 17 by omega); have f := HN1.out.own.free (i * 17 + 10);simp only [bc] at c;obtain ⟨E1,hE1⟩ : ∃ E,E = upd D1 i (setY (D1 i) 0) := ⟨_,rfl⟩;have HS1 : Hid (MW w g n i r E1 A0 A1 A2 (World.setCell v1 (Y g (i * 17 + 10)) (I 0))) := by rw [hE1]; exact HN1.out.turn (HN1.out.own.putY HI.out.1 0) ((Only.refl [g] v1).setCell (p := Y g (i * 17 + 10)) (Or.inl (by simp)) _)
      have HB2 : Hid (E1 i = spX (atX q C0 C1 C2) (q.vx) (0) (q.vz)) := by show E1 i = _; rw [hE1,y0s,HDI.out]; rfl
      have HU2 : Hid (upd D1 i (E1 i) = E1) := by show upd D1 i (E1 i) = E1; rw [hE1,y0s]
      clear hE1;go_upto_region 7 with fail
      clear c f;revert HS1;generalize World.setCell v1 _ _ = x1;intro HS1;clear HN1;have p2 := HS1.out.own.cell HI.out.1 (show 8 < 17 by omega); have t2 := HS1.out.t2;skip;rw [HB2.out] at p2;simp only [bc,spX,atX] at p2;skip;go_upto_region 7 with fail
      go_quiet (fail)
      clear p2 t2;have HN2 : Hid (MW w g n i r E1 A0 A1 A2 (World.drewN x1 nq)) := HS1.out.drew nq;revert HN2;generalize World.drewN x1 nq = v2;intro HN2;clear HS1;have c := HN2.out.own.cell HI.out.1 (show 11 < 17 by omega); have f := HN2.out.own.free (i * 17 + 11);simp only [bc] at c;obtain ⟨E2,hE2⟩ : ∃ E,E = upd E1 i (setZ (E1 i) 0) := ⟨_,rfl⟩;have HS2 : Hid (MW w g n i r E2 A0 A1 A2 (World.setCell v2 (Y g (i * 17 + 11)) (I 0))) := by rw [hE2]; exact HN2.out.turn (HN2.out.own.putZ HI.out.1 0) ((Only.refl [g] v2).setCell (p := Y g (i * 17 + 11)) (Or.inl (by simp)) _)
      have HB3 : Hid (E2 i = spX (atX q C0 C1 C2) (q.vx) (0) (0)) := by show E2 i = _; rw [hE2,y0s,HB2.out]; rfl
      have HU3 : Hid (upd D1 i (E2 i) = E2) := by show upd D1 i (E2 i) = E2; rw [hE2,y0s]; rw [← HU2.out,y2x,y0s]
      go_wp2_with fail
      refine bodyPost_end (results_none rfl _ _ _) rfl ?_;refine ⟨rfl,HFIN.out (E2 i) _ (by rw [HDI.out,HB3.out]; simp [h0,h1,h2]) (by rw [HU3.out]; exact HS2.out.own),HS2.out.only⟩
  ·have b0 : (C0 == A0) = false := by simpa using h0
   by_cases h1 : C1 = A1
   ·have b1 : (C1 == A1) = true := by simpa using h1
    by_cases h2 : C2 = A2
    ·have b2 : (C2 == A2) = true := by simpa using h2
     as_aux_lemma =>
      go_quiet (fail)
      have H4 := H3.out.drew nq;revert H4;generalize World.drewN w3 nq = w4;intro H4;clear c6 c7 c8 s0 s1 s2 H3;have HM0 : Hid (MW w g n i r D1 A0 A1 A2 w4) := H4;clear H4;have HE0 : Hid (D1 i = spX (D1 i) q.vx q.vy q.vz ∧ upd D1 i (D1 i) = D1) := ⟨by rw [HDI.out]; rfl,y29 D1 i⟩;have p0 := HM0.out.own.cell HI.out.1 (show 6 < 17 by omega); have t0 := HM0.out.t0;skip;rw [HDI.out] at p0;simp only [bc,spX,atX] at p0;skip;go_upto_region 3 with fail
      go_quiet (fail)
      clear p0 t0;have HN0 : Hid (MW w g n i r D1 A0 A1 A2 (World.drewN w4 nq)) := HM0.out.drew nq;revert HN0;generalize World.drewN w4 nq = v0;intro HN0;clear HM0;have c := HN0.out.own.cell HI.out.1 (show 9 < 17 by omega); have f := HN0.out.own.free (i * 17 + 9);simp only [bc] at c;obtain ⟨E0,hE0⟩ : ∃ E,E = upd D1 i (setX (D1 i) 0) := ⟨_,rfl⟩;have HS0 : Hid (MW w g n i r E0 A0 A1 A2 (World.setCell v0 (Y g (i * 17 + 9)) (I 0))) := by rw [hE0]; exact HN0.out.turn (HN0.out.own.putX HI.out.1 0) ((Only.refl [g] v0).setCell (p := Y g (i * 17 + 9)) (Or.inl (by simp)) _)
      have HB1 : Hid (E0 i = spX (atX q C0 C1 C2) (0) (q.vy) (q.vz)) := by show E0 i = _; rw [hE0,y0s,HDI.out]; rfl
      have HU1 : Hid (upd D1 i (E0 i) = E0) := by show upd D1 i (E0 i) = E0; rw [hE0,y0s]
      clear hE0;go_upto_region 5 with fail
      clear c f;revert HS0;generalize World.setCell v0 _ _ = x0;intro HS0;clear HN0;have p1 := HS0.out.own.cell HI.out.1 (show 7 < 17 by omega); have t1 := HS0.out.t1;skip;rw [HB1.out] at p1;simp only [bc,spX,atX] at p1;skip;go_upto_region 5 with fail
      go_quiet (fail)
      clear p1 t1;have HN1 : Hid (MW w g n i r E0 A0 A1 A2 (World.drewN x0 nq)) := HS0.out.drew nq;revert HN1;generalize World.drewN x0 nq = v1;intro HN1;clear HS0;have p2 := HN1.out.own.cell HI.out.1 (show 8 < 17 by omega); have t2 := HN1.out.t2;skip;rw [HB1.out] at p2;simp only [bc,spX,atX] at p2;skip;go_upto_region 7 with fail
      go_quiet (fail)
      clear p2 t2;have HN2 : Hid (MW w g n i r E0 A0 A1 A2 (World.drewN v1 nq)) := HN1.out.drew nq;revert HN2;generalize World.drewN v1 nq = v2;intro HN2;clear HN1;go_wp2_with fail
      refine bodyPost_end (results_none rfl _ _ _) rfl ?_;refine ⟨rfl,HFIN.out (E0 i) _ (by rw [HDI.out,HB1.out]; simp [h0,h1,h2]) (by rw [HU1.out]; exact HN2.out.own),HN2.out.only⟩
    ·have b2 : (C2 == A2) = false := by simpa using h2
     as_aux_lemma =>
      go_quiet (fail)
      have H4 := H3.out.drew nq;revert H4;generalize World.drewN w3 nq = w4;intro H4;clear c6 c7 c8 s0 s1 s2 H3;have HM0 : Hid (MW w g n i r D1 A0 A1 A2 w4) := H4;clear H4;have HE0 : Hid (D1 i = spX (D1 i) q.vx q.vy q.vz ∧ upd D1 i (D1 i) = D1) := ⟨by rw [HDI.out]; rfl,y29 D1 i⟩;have p0 := HM0.out.own.cell HI.out.1 (show 6 < 17 by omega); have t0 := HM0.out.t0;skip;rw [HDI.out] at p0;simp only [bc,spX,atX] at p0;skip;go_upto_region 3 with fail
      go_quiet (fail)
      clear p0 t0;have HN0 : Hid (MW w g n i r D1 A0 A1 A2 (World.drewN w4 nq)) := HM0.out.drew nq;revert HN0;generalize World.drewN w4 nq = v0;intro HN0;clear HM0;have c := HN0.out.own.cell HI.out.1 (show 9 < 17 by omega); have f := HN0.out.own.free (i * 17 + 9);simp only [bc] at c;obtain ⟨E0,hE0⟩ : ∃ E,E = upd D1 i (setX (D1 i) 0) := ⟨_,rfl⟩;have HS0 : Hid (MW w g n i r E0 A0 A1 A2 (World.setCell v0 (Y g (i * 17 + 9)) (I 0))) := by rw [hE0]; exact HN0.out.turn (HN0.out.own.putX HI.out.1 0) ((Only.refl [g] v0).setCell (p := Y g (i * 17 + 9)) (Or.inl (by simp)) _)
      have HB1 : Hid (E0 i = spX (atX q C0 C1 C2) (0) (q.vy) (q.vz)) := by show E0 i = _; rw [hE0,y0s,HDI.out]; rfl
      have HU1 : Hid (upd D1 i (E0 i) = E0) := by show upd D1 i (E0 i) = E0; rw [hE0,y0s]
      clear hE0;go_upto_region 5 with fail
      clear c f;revert HS0;generalize World.setCell v0 _ _ = x0;intro HS0;clear HN0;have p1 := HS0.out.own.cell HI.out.1 (show 7 < 17 by omega); have t1 := HS0.out.t1;skip;rw [HB1.out] at p1;simp only [bc,spX,atX] at p1;skip;go_upto_region 5 with fail
      go_quiet (fail)
      clear p1 t1;have HN1 : Hid (MW w g n i r E0 A0 A1 A2 (World.drewN x0 nq)) := HS0.out.drew nq;revert HN1;generalize World.drewN x0 nq = v1;intro HN1;clear HS0;have p2 := HN1.out.own.cell HI.out.1 (show 8 < 17 by omega); have t2 := HN1.out.t2;skip;rw [HB1.out] at p2;simp only [bc,spX,atX] at p2;skip;go_upto_region 7 with fail
      go_quiet (fail)
      clear p2 t2;have HN2 : Hid (MW w g n i r E0 A0 A1 A2 (World.drewN v1 nq)) := HN1.out.drew nq;revert HN2;generalize World.drewN v1 nq = v2;intro HN2;clear HN1;have c := HN2.out.own.cell HI.out.1 (show 11 < 17 by omega); have f := HN2.out.own.free (i * 17 + 11);simp only [bc] at c;obtain ⟨E2,hE2⟩ : ∃ E,E = upd E0 i (setZ (E0 i) 0) := ⟨_,rfl⟩;have HS2 : Hid (MW w g n i r E2 A0 A1 A2 (World.setCell v2 (Y g (i * 17 + 11)) (I 0))) := by rw [hE2]; exact HN2.out.turn (HN2.out.own.putZ HI.out.1 0) ((Only.refl [g] v2).setCell (p := Y g (i * 17 + 11)) (Or.inl (by simp)) _)
      have HB3 : Hid (E2 i = spX (atX q C0 C1 C2) (0) (q.vy) (0)) := by show E2 i = _; rw [hE2,y0s,HB1.out]; rfl
      have HU3 : Hid (upd D1 i (E2 i) = E2) := by show upd D1 i (E2 i) = E2; rw [hE2,y0s]; rw [← HU1.out,y2x,y0s]
      go_wp2_with fail
      refine bodyPost_end (results_none rfl _ _ _) rfl ?_;refine ⟨rfl,HFIN.out (E2 i) _ (by rw [HDI.out,HB3.out]; simp [h0,h1,h2]) (by rw [HU3.out]; exact HS2.out.own),HS2.out.only⟩
   ·have b1 : (C1 == A1) = false := by simpa using h1
    by_cases h2 : C2 = A2
    ·have b2 : (C2 == A2) = true := by simpa using h2
     as_aux_lemma =>
      go_quiet (fail)
      have H4 := H3.out.drew nq;revert H4;generalize World.drewN w3 nq = w4;intro H4;clear c6 c7 c8 s0 s1 s2 H3;have HM0 : Hid (MW w g n i r D1 A0 A1 A2 w4) := H4;clear H4;have HE0 : Hid (D1 i = spX (D1 i) q.vx q.vy q.vz ∧ upd D1 i (D1 i) = D1) := ⟨by rw [HDI.out]; rfl,y29 D1 i⟩;have p0 := HM0.out.own.cell HI.out.1 (show 6 < 17 by omega); have t0 := HM0.out.t0;skip;rw [HDI.out] at p0;simp only [bc,spX,atX] at p0;skip;go_upto_region 3 with fail
      go_quiet (fail)
      clear p0 t0;have HN0 : Hid (MW w g n i r D1 A0 A1 A2 (World.drewN w4 nq)) := HM0.out.drew nq;revert HN0;generalize World.drewN w4 nq = v0;intro HN0;clear HM0;have c := HN0.out.own.cell HI.out.1 (show 9 < 17 by omega); have f := HN0.out.own.free (i * 17 + 9);simp only [bc] at c;obtain ⟨E0,hE0⟩ : ∃ E,E = upd D1 i (setX (D1 i) 0) := ⟨_,rfl⟩;have HS0 : Hid (MW w g n i r E0 A0 A1 A2 (World.setCell v0 (Y g (i * 17 + 9)) (I 0))) := by rw [hE0]; exact HN0.out.turn (HN0.out.own.putX HI.out.1 0) ((Only.refl [g] v0).setCell (p := Y g (i * 17 + 9)) (Or.inl (by simp)) _)
      have HB1 : Hid (E0 i = spX (atX q C0 C1 C2) (0) (q.vy) (q.vz)) := by show E0 i = _; rw [hE0,y0s,HDI.out]; rfl
      have HU1 : Hid (upd D1 i (E0 i) = E0) := by show upd D1 i (E0 i) = E0; rw [hE0,y0s]
      clear hE0;go_upto_region 5 with fail
      clear c f;revert HS0;generalize World.setCell v0 _ _ = x0;intro HS0;clear HN0;have p1 := HS0.out.own.cell HI.out.1 (show 7 < 17 by omega); have t1 := HS0.out.t1;skip;rw [HB1.out] at p1;simp only [bc,spX,atX] at p1;skip;go_upto_region 5 with fail
      go_quiet (fail)
      clear p1 t1;have HN1 : Hid (MW w g n i r E0 A0 A1 A2 (World.drewN x0 nq)) := HS0.out.drew nq;revert HN1;generalize World.drewN x0 nq = v1;intro HN1;clear HS0;have c := HN1.out.own.cell HI.out.1 (show 10 < 17 by omega); have f := HN1.out.own.free (i * 17 + 10);simp only [bc] at c;obtain ⟨E1,hE1⟩ : ∃ E,E = upd E0 i (setY (E0 i) 0) := ⟨_,rfl⟩;have HS1 : Hid (MW w g n i r E1 A0 A1 A2 (World.setCell v1 (Y g (i * 17 + 10)) (I 0))) := by rw [hE1]; exact HN1.out.turn (HN1.out.own.putY HI.out.1 0) ((Only.refl [g] v1).setCell (p := Y g (i * 17 + 10)) (Or.inl (by simp)) _)
      have HB2 : Hid (E1 i = spX (atX q C0 C1 C2) (0) (0) (q.vz)) := by show E1 i = _; rw [hE1,y0s,HB1.out]; rfl
      have HU2 : Hid (upd D1 i (E1 i) = E1) := by show upd D1 i (E1 i) = E1; rw [hE1,y0s]; rw [← HU1.out,y2x,y0s]
      clear hE1;go_upto_region 7 with fail
      clear c f;revert HS1;generalize World.setCell v1 _ _ = x1;intro HS1;clear HN1;have p2 := HS1.out.own.cell HI.out.1 (show 8 < 17 by omega); have t2 := HS1.out.t2;skip;rw [HB2.out] at p2;simp only [bc,spX,atX] at p2;skip;go_upto_region 7 with fail
      go_quiet (fail)
      clear p2 t2;have HN2 : Hid (MW w g n i r E1 A0 A1 A2 (World.drewN x1 nq)) := HS1.out.drew nq;revert HN2;generalize World.drewN x1 nq = v2;intro HN2;clear HS1;go_wp2_with fail
      refine bodyPost_end (results_none rfl _ _ _) rfl ?_;refine ⟨rfl,HFIN.out (E1 i) _ (by rw [HDI.out,HB2.out]; simp [h0,h1,h2]) (by rw [HU2.out]; exact HN2.out.own),HN2.out.only⟩
    ·have b2 : (C2 == A2) = false := by simpa using h2
     as_aux_lemma =>
      go_quiet (fail)
      have H4 := H3.out.drew nq;revert H4;generalize World.drewN w3 nq = w4;intro H4;clear c6 c7 c8 s0 s1 s2 H3;have HM0 : Hid (MW w g n i r D1 A0 A1 A2 w4) := H4;clear H4;have HE0 : Hid (D1 i = spX (D1 i) q.vx q.vy q.vz ∧ upd D1 i (D1 i) = D1) := ⟨by rw [HDI.out]; rfl,y29 D1 i⟩;have p0 := HM0.out.own.cell HI.out.1 (show 6 < 17 by omega); have t0 := HM0.out.t0;skip;rw [HDI.out] at p0;simp only [bc,spX,atX] at p0;skip;go_upto_region 3 with fail
      go_quiet (fail)
      clear p0 t0;have HN0 : Hid (MW w g n i r D1 A0 A1 A2 (World.drewN w4 nq)) := HM0.out.drew nq;revert HN0;generalize World.drewN w4 nq = v0;intro HN0;clear HM0;have c := HN0.out.own.cell HI.out.1 (show 9 < 17 by omega); have f := HN0.out.own.free (i * 17 + 9);simp only [bc] at c;obtain ⟨E0,hE0⟩ : ∃ E,E = upd D1 i (setX (D1 i) 0) := ⟨_,rfl⟩;have HS0 : Hid (MW w g n i r E0 A0 A1 A2 (World.setCell v0 (Y g (i * 17 + 9)) (I 0))) := by rw [hE0]; exact HN0.out.turn (HN0.out.own.putX HI.out.1 0) ((Only.refl [g] v0).setCell (p := Y g (i * 17 + 9)) (Or.inl (by simp)) _)
      have HB1 : Hid (E0 i = spX (atX q C0 C1 C2) (0) (q.vy) (q.vz)) := by show E0 i = _; rw [hE0,y0s,HDI.out]; rfl
      have HU1 : Hid (upd D1 i (E0 i) = E0) := by show upd D1 i (E0 i) = E0; rw [hE0,y0s]
      clear hE0;go_upto_region 5 with fail
      clear c f;revert HS0;generalize World.setCell v0 _ _ = x0;intro HS0;clear HN0;have p1 := HS0.out.own.cell HI.out.1 (show 7 < 17 by omega); have t1 := HS0.out.t1;skip;rw [HB1.out] at p1;simp only [bc,spX,atX] at p1;skip;go_upto_region 5 with fail
      go_quiet (fail)
      clear p1 t1;have HN1 : Hid (MW w g n i r E0 A0 A1 A2 (World.drewN x0 nq)) := HS0.out.drew nq;revert HN1;generalize World.drewN x0 nq = v1;intro HN1;clear HS0;have c := HN1.out.own.cell HI.out.1 (show 10 < 17 by omega); have f := HN1.out.own.free (i * 17 + 10);simp only [bc] at c;obtain ⟨E1,hE1⟩ : ∃ E,E = upd E0 i (setY (E0 i) 0) := ⟨_,rfl⟩;have HS1 : Hid (MW w g n i r E1 A0 A1 A2 (World.setCell v1 (Y g (i * 17 + 10)) (I 0))) := by rw [hE1]; exact HN1.out.turn (HN1.out.own.putY HI.out.1 0) ((Only.refl [g] v1).setCell (p := Y g (i * 17 + 10)) (Or.inl (by simp)) _)
      have HB2 : Hid (E1 i = spX (atX q C0 C1 C2) (0) (0) (q.vz)) := by show E1 i = _; rw [hE1,y0s,HB1.out]; rfl
      have HU2 : Hid (upd D1 i (E1 i) = E1) := by show upd D1 i (E1 i) = E1; rw [hE1,y0s]; rw [← HU1.out,y2x,y0s]
      clear hE1;go_upto_region 7 with fail
      clear c f;revert HS1;generalize World.setCell v1 _ _ = x1;intro HS1;clear HN1;have p2 := HS1.out.own.cell HI.out.1 (show 8 < 17 by omega); have t2 := HS1.out.t2;skip;rw [HB2.out] at p2;simp only [bc,spX,atX] at p2;skip;go_upto_region 7 with fail
      go_quiet (fail)
      clear p2 t2;have HN2 : Hid (MW w g n i r E1 A0 A1 A2 (World.drewN x1 nq)) := HS1.out.drew nq;revert HN2;generalize World.drewN x1 nq = v2;intro HN2;clear HS1;have c := HN2.out.own.cell HI.out.1 (show 11 < 17 by omega); have f := HN2.out.own.free (i * 17 + 11);simp only [bc] at c;obtain ⟨E2,hE2⟩ : ∃ E,E = upd E1 i (setZ (E1 i) 0) := ⟨_,rfl⟩;have HS2 : Hid (MW w g n i r E2 A0 A1 A2 (World.setCell v2 (Y g (i * 17 + 11)) (I 0))) := by rw [hE2]; exact HN2.out.turn (HN2.out.own.putZ HI.out.1 0) ((Only.refl [g] v2).setCell (p := Y g (i * 17 + 11)) (Or.inl (by simp)) _)
      have HB3 : Hid (E2 i = spX (atX q C0 C1 C2) (0) (0) (0)) := by show E2 i = _; rw [hE2,y0s,HB2.out]; rfl
      have HU3 : Hid (upd D1 i (E2 i) = E2) := by show upd D1 i (E2 i) = E2; rw [hE2,y0s]; rw [← HU2.out,y2x,y0s]
      go_wp2_with fail
      refine bodyPost_end (results_none rfl _ _ _) rfl ?_;refine ⟨rfl,HFIN.out (E2 i) _ (by rw [HDI.out,HB3.out]; simp [h0,h1,h2]) (by rw [HU3.out]; exact HS2.out.own),HS2.out.only⟩
end Go.Proofs.YtbenlgandjjopaaGreatDoor
