/- . -/
import Derived.Test.YtbenlgandjjopaaGreatDoorN14
open Go.Value renaming int → J
open Go.IntKind renaming i64 → U
open List renaming mem_singleton → zrc
namespace Go.Proofs.YtbenlgandjjopaaGreatDoor
set_option maxRecDepth 100000
set_option maxHeartbeats 4000000
open Go.ChangeShapes Go.WideShapes Go.ChangeAt Go.RowKit
set_option linter.unusedVariables false
set_option linter.unusedSimpArgs false
def lessV (q : Bd) (a b c m : Int) : Bd := spX q (sub q.vx (mul a m)) (sub q.vy (mul b m)) (sub q.vz (mul c m))
def moreV (q : Bd) (a b c m : Int) : Bd := spX q (add q.vx (mul a m)) (add q.vy (mul b m)) (add q.vz (mul c m))
def giveX (B : Nat → Bd) (i k : Nat) (x y a b c j : Int) : Nat → Bd :=
 let B1 := upd B i (lessV (B i) a b c (mul j x))
 upd B1 k (moreV (B1 k) a b c (mul j y))
def SpAt (w' : World) (g i k : Nat) (p q : Bd) : Prop := w'.cell? ⟨g,i * 17 + 9,none⟩ = some (J U p.vx) ∧ w'.cell? ⟨g,i * 17 + 10,none⟩ = some (J U p.vy) ∧ w'.cell? ⟨g,i * 17 + 11,none⟩ = some (J U p.vz) ∧ w'.cell? ⟨g,k * 17 + 9,none⟩ = some (J U q.vx) ∧ w'.cell? ⟨g,k * 17 + 10,none⟩ = some (J U q.vy) ∧ w'.cell? ⟨g,k * 17 + 11,none⟩ = some (J U q.vz)
theorem VecAt.free {w : World} {b : Nat} {x y z : Int} (h : VecAt w b x y z) (j : Nat) : w.frozen? (Y b j) = false := by
 unfold VecAt at h; simp [World.frozen?,h]
def shareX (b : Int) : Bool := decide (0 ≤ b ∧ b ≤ 65536)
theorem y96 (b : Int) (w : World) : Calls Tryz.prog 63 #[I b] w fun e w' => e = .returned (.bool (shareX b)) ∧ w' = w := by
 by_cases h1 : 0 ≤ b
 ·by_cases h2 : b ≤ 65536
  ·have HR : Hid (shareX b = true) := by show shareX b = true; simp [shareX,h1,h2]
   go_enter Tryz.func63,Tryz.ntmps63
   go_wp2_with fail
   go_ret
   exact ⟨by rw [HR.out]; rfl,rfl⟩
  ·have HR : Hid (shareX b = false) := by show shareX b = false; simp [shareX,h1]; omega
   go_enter Tryz.func63,Tryz.ntmps63
   go_wp2_with fail
   go_ret
   exact ⟨by rw [HR.out]; rfl,rfl⟩
 ·have HR : Hid (shareX b = false) := by show shareX b = false; simp [shareX]; omega
  go_enter Tryz.func63,Tryz.ntmps63
  go_wp2_with fail
  go_ret
  exact ⟨by rw [HR.out]; rfl,rfl⟩
def rightX (b r k : Int) : Bool := shareX b && shareX r && decide (1 ≤ k) && decide (k ≤ 20)
theorem y58 (b r k : Int) (w : World) : Calls Tryz.prog 31 #[.agg #[I b,I r,I k]] w fun e w' => e = .returned (.bool (rightX b r k)) ∧ Kept w w' := by
 have HR : Hid (rightX b r k = (shareX b && shareX r && decide (1 ≤ k) && decide (k ≤ 20))) := rfl;go_enter Tryz.func31,Tryz.ntmps31
 go_wp2_with fail
 refine (y96 b _).mono ?_;rintro e w1 ⟨rfl,hw⟩;subst hw;generalize shareX b = sb at HR
 cases sb with
 | false =>
  go_wp2_with fail
  go_ret
  exact ⟨by rw [HR.out]; rfl,(Kept.refl _).alloc _ _⟩
 | true =>
  go_wp2_with fail
  refine (y96 r _).mono ?_;rintro e w1 ⟨rfl,hw⟩;subst hw;generalize shareX r = sr at HR
  cases sr with
  | false =>
   go_wp2_with fail
   go_ret
   exact ⟨by rw [HR.out]; rfl,(Kept.refl _).alloc _ _⟩
  | true =>
   by_cases h1 : 1 ≤ k
   ·by_cases h2 : k ≤ 20
    ·have HQ : Hid (rightX b r k = true) := by show _ = _; rw [HR.out]; simp [h1,h2]
     go_wp2_with fail
     go_ret
     exact ⟨by rw [HQ.out]; first | rfl | simp [h2] | simp [h1],(Kept.refl _).alloc _ _⟩
    ·have HQ : Hid (rightX b r k = false) := by show _ = _; rw [HR.out]; simp [h1,h2]
     go_wp2_with fail
     go_ret
     exact ⟨by rw [HQ.out]; first | rfl | simp [h2] | simp [h1],(Kept.refl _).alloc _ _⟩
   ·have HQ : Hid (rightX b r k = false) := by show _ = _; rw [HR.out]; simp [h1]
    go_wp2_with fail
    go_ret
    exact ⟨by rw [HQ.out]; first | rfl | simp [h1],(Kept.refl _).alloc _ _⟩
theorem ya9 (g n i k : Nat) (x y al : Int) (v : V3) (dp a b c j : Int) (B : Nat → Bd) (w : World) (h : OwnB w g n B) (hi : i < n) (hk : k < n) :
  Calls Tryz.prog 120 #[.agg #[.pointer (some (Y g (i * 17))),.pointer (some (Y g (k * 17))),I x,I y,I al,I v.x,I v.y,I v.z,I dp],.agg #[I a,I b,I c],I j] w fun e w' => e = .returned (.tuple #[]) ∧ OwnB w' g n (giveX B i k x y a b c j) ∧ Only [g] w w' := by
 have HO : Hid (OwnB w g n B ∧ i < n ∧ k < n) := ⟨h,hi,hk⟩;clear h hi hk;go_enter Tryz.func120,Tryz.ntmps120
 go_wp2_with fail
 have H0 : Hid (Only [] w ((w.alloc (.cells #[.pointer (some (Y g (i * 17))),.pointer (some (Y g (k * 17))),I x,I y,I al,I v.x,I v.y,I v.z,I dp] 131)).alloc (.cells #[I a,I b,I c] 23)) ∧ MtAt ((w.alloc (.cells #[.pointer (some (Y g (i * 17))),.pointer (some (Y g (k * 17))),I x,I y,I al,I v.x,I v.y,I v.z,I dp] 131)).alloc (.cells #[I a,I b,I c] 23)) w.heap.size g i k x y al v dp) := ⟨((Only.refl [] w).alloc _).alloc _,MtAt.only (MapKept.heap_alloc w _).1 ((Only.refl [] _).alloc _) (by simp)⟩;refine (y93 _ _ _ _ _ _ _ _ _ a b c j _).mono ?_;rintro e w4 ⟨rfl,k4⟩;have H1 : Hid (Only [] w w4 ∧ MtAt w4 w.heap.size g i k x y al v dp) := ⟨H0.out.1.trans (Only.of_kept k4),H0.out.2.only (Only.of_kept (D := []) k4) (by simp)⟩;clear k4 H0;revert H1;generalize hkx : w.heap.size = kx;intro H1;have HX : Hid (w.heap.size = kx) := hkx;clear hkx;go_upto_region 2 with fail
 have H5 : Hid (Only [] w ((w4.alloc (.cells #[I (mul a (mul j x)),I (mul b (mul j x)),I (mul c (mul j x))] 23)).alloc (.cells #[I (mul a (mul j y)),I (mul b (mul j y)),I (mul c (mul j y))] 23)) ∧ MtAt ((w4.alloc (.cells #[I (mul a (mul j x)),I (mul b (mul j x)),I (mul c (mul j x))] 23)).alloc (.cells #[I (mul a (mul j y)),I (mul b (mul j y)),I (mul c (mul j y))] 23)) kx g i k x y al v dp ∧ VecAt ((w4.alloc (.cells #[I (mul a (mul j x)),I (mul b (mul j x)),I (mul c (mul j x))] 23)).alloc (.cells #[I (mul a (mul j y)),I (mul b (mul j y)),I (mul c (mul j y))] 23)) w4.heap.size (mul a (mul j x)) (mul b (mul j x)) (mul c (mul j x)) ∧ VecAt ((w4.alloc (.cells #[I (mul a (mul j x)),I (mul b (mul j x)),I (mul c (mul j x))] 23)).alloc (.cells #[I (mul a (mul j y)),I (mul b (mul j y)),I (mul c (mul j y))] 23)) (w4.heap.size + 1) (mul a (mul j y)) (mul b (mul j y)) (mul c (mul j y)) ∧ w.heap.size ≤ w4.heap.size ∧ w.heap.size ≤ w4.heap.size + 1) := by
  have hs : (w4.alloc (.cells #[I (mul a (mul j x)),I (mul b (mul j x)),I (mul c (mul j x))] 23)).heap.size = w4.heap.size + 1 := by simp
  have hb := (MapKept.heap_alloc (w4.alloc (.cells #[I (mul a (mul j x)),I (mul b (mul j x)),I (mul c (mul j x))] 23)) (.cells #[I (mul a (mul j y)),I (mul b (mul j y)),I (mul c (mul j y))] 23)).1;rw [hs] at hb;exact ⟨(H1.out.1.alloc _).alloc _,H1.out.2.only (((Only.refl [] w4).alloc _).alloc _) (by simp),VecAt.only (MapKept.heap_alloc w4 _).1 ((Only.refl [] _).alloc _) (by simp),hb,H1.out.1.size,Nat.le_trans H1.out.1.size (Nat.le_succ _)⟩
 clear H1;revert H5;generalize w4.heap.size + 1 = rb;generalize w4.heap.size = ra;generalize World.alloc (World.alloc w4 _) _ = w5;intro H5
 have HNE : Hid (ra ≠ g ∧ rb ≠ g ∧ VecAt w5 rb (mul a (mul j y)) (mul b (mul j y)) (mul c (mul j y))) := by
  have hg := HO.out.1.lt;have h2 := H5.out.2.2.2.2;exact ⟨by omega,by omega,H5.out.2.2.2.1⟩
 have HB6 : Hid (OwnB w5 g n B ∧ MtAt w5 kx g i k x y al v dp ∧ kx ≠ g ∧ VecAt w5 ra (mul a (mul j x)) (mul b (mul j x)) (mul c (mul j x))) := by
  have hg := HO.out.1.lt;have hx := HX.out;exact ⟨HO.out.1.only H5.out.1 (by simp),H5.out.2.1,by omega,H5.out.2.2.1⟩
 obtain ⟨bi,hxi⟩ : ∃ bi,bi = B i := ⟨_,rfl⟩;have HXI : Hid (bi = B i) := hxi;clear hxi
 have HK : Hid (∀ w',Only [g] w5 w' → Only [g] w5 w' ∧ w'.cell? (Y kx 0) = some (.pointer (some (Y g (i * 17)))) ∧ w'.cell? (Y ra 0) = some (I (mul a (mul j x))) ∧ w'.cell? (Y ra 1) = some (I (mul b (mul j x))) ∧ w'.cell? (Y ra 2) = some (I (mul c (mul j x)))) := fun w' o =>
  ⟨o,y03 o (HB6.out.2.1.off 0) (by simp only [zrc]; exact HB6.out.2.2.1),y03 o (HB6.out.2.2.2.off 0) (by simp only [zrc]; exact HNE.out.1),y03 o (HB6.out.2.2.2.off 1) (by simp only [zrc]; exact HNE.out.1),y03 o (HB6.out.2.2.2.off 2) (by simp only [zrc]; exact HNE.out.1)⟩
 have c6 := HB6.out.1.cell HO.out.2.1 (show 9 < 17 by omega); have c7 := HB6.out.1.cell HO.out.2.1 (show 10 < 17 by omega); have c8 := HB6.out.1.cell HO.out.2.1 (show 11 < 17 by omega);rw [← HXI.out] at c6 c7 c8;simp only [bc] at c6 c7 c8;refine wp_region_held_drew (S := (fun w' => Only [g] w5 w' ∧ w'.cell? (Y kx 0) = some (.pointer (some (Y g (i * 17)))) ∧ Zc w' ra 0 (mul a (mul j x)) ∧ Zc w' ra 1 (mul b (mul j x)) ∧ Zc w' ra 2 (mul c (mul j x)))) (by kernel_rfl) ?_ (fun hJ1 => ?_)
 ·exact HK.out _ (Only.refl _ _).drew
 refine tkU 0 (h:=tkU 1 (h:=tkU 2 (h:=tkV 3 ?_)));try simp only [zP]
 refine tkU 4 (h:=tkU 5 (h:=tkV 7 ?_));try simp only [zP]
 refine rdW 6 rfl fun K hK => ?_;simp only [zQ];go_simp;skip;try go_wp2_with fail
 refine hK.out _ _ ?_ fun hJ2 => ?_
 ·exact HK.out _ (Only.refl _ _).drew
 clear hK K hJ1;try simp only [zP]
 refine rdW 8 rfl fun K hK => ?_;simp only [zQ];go_simp
 (go_at_call 96; refine (y0o _ _ _ _ _ _ _).mono ?_; rintro e w7 ⟨rfl,k6⟩)
 try go_wp2_with fail
 refine hK.out _ _ ?_ fun hJ3 => ?_
 ·exact HK.out _ (Only.of_kept ((Kept.refl w5).drew.trans k6))
 clear hK K hJ2;try simp only [zP]
 have K7 : Hid (Kept w5 w7) := (Kept.refl w5).drew.trans k6;have e6 := y00 K7.out c6; have e7 := y00 K7.out c7; have e8 := y00 K7.out c8;have f6 := y01 K7.out (HB6.out.1.free (i * 17 + 9)); have f7 := y01 K7.out (HB6.out.1.free (i * 17 + 10)); have f8 := y01 K7.out (HB6.out.1.free (i * 17 + 11));clear k6 c6 c7 c8;refine tkU 9 (h:=tkV 10 ?_);try simp only [zP]
 refine rdW 11 rfl fun K hK => ?_;simp only [zQ];go_simp;refine hK.out _ _ ?_ fun hJ4 => ?_
 ·exact HK.out _ ((((Only.of_kept K7.out).setCell (p := Y g (i * 17 + 9)) (Or.inl (by simp)) _).setCell (p := Y g (i * 17 + 10)) (Or.inl (by simp)) _).setCell (p := Y g (i * 17 + 11)) (Or.inl (by simp)) _)
 clear hK K;try simp only [zP]
 refine wpAnyH_done (by kernel_rfl) ?_ _
 have HB8 : Hid (OwnB (((w7.setCell (Y g (i * 17 + 9)) (I (sub bi.vx (mul a (mul j x))))).setCell (Y g (i * 17 + 10)) (I (sub bi.vy (mul b (mul j x))))).setCell (Y g (i * 17 + 11)) (I (sub bi.vz (mul c (mul j x))))) g n (upd (B) i (lessV (B i) a b c (mul j x))) ∧ Only [g] w5 (((w7.setCell (Y g (i * 17 + 9)) (I (sub bi.vx (mul a (mul j x))))).setCell (Y g (i * 17 + 10)) (I (sub bi.vy (mul b (mul j x))))).setCell (Y g (i * 17 + 11)) (I (sub bi.vz (mul c (mul j x)))))) := by
  refine ⟨?_,(((Only.of_kept K7.out).setCell (p := Y g (i * 17 + 9)) (Or.inl (by simp)) _).setCell (p := Y g (i * 17 + 10)) (Or.inl (by simp)) _).setCell (p := Y g (i * 17 + 11)) (Or.inl (by simp)) _⟩;have h1 := (HB6.out.1.only (Only.of_kept (D := []) K7.out) (by simp)).putSp HO.out.2.1 (sub bi.vx (mul a (mul j x))) (sub bi.vy (mul b (mul j x))) (sub bi.vz (mul c (mul j x)));rw [HXI.out] at h1 ⊢;exact h1
 clear hJ4 HK e6 e7 e8 f6 f7 f8 K7;revert HB8;generalize World.setCell (World.setCell (World.setCell w7 _ _) _ _) _ _ = w8;intro HB8;obtain ⟨B1,hB1⟩ : ∃ B1,B1 = upd B i (lessV (B i) a b c (mul j x)) := ⟨_,rfl⟩;rw [← hB1] at HB8;have HB1 : Hid (B1 = upd B i (lessV (B i) a b c (mul j x))) := hB1;clear hB1;have HC8 : Hid (OwnB w8 g n B1 ∧ MtAt w8 kx g i k x y al v dp ∧ kx ≠ g ∧ VecAt w8 rb (mul a (mul j y)) (mul b (mul j y)) (mul c (mul j y))) := ⟨HB8.out.1,HB6.out.2.1.only HB8.out.2 (by simp only [zrc]; exact HB6.out.2.2.1),HB6.out.2.2.1,HNE.out.2.2.only HB8.out.2 (by simp only [zrc]; exact HNE.out.2.1)⟩;go_upto_region 3 with fail
 obtain ⟨bk,hxk⟩ : ∃ bk,bk = B1 k := ⟨_,rfl⟩;have HXK : Hid (bk = B1 k) := hxk;clear hxk
 have HK : Hid (∀ w',Only [g] w8 w' → Only [g] w8 w' ∧ w'.cell? (Y kx 1) = some (.pointer (some (Y g (k * 17)))) ∧ w'.cell? (Y rb 0) = some (I (mul a (mul j y))) ∧ w'.cell? (Y rb 1) = some (I (mul b (mul j y))) ∧ w'.cell? (Y rb 2) = some (I (mul c (mul j y)))) := fun w' o =>
  ⟨o,y03 o (HC8.out.2.1.off 1) (by simp only [zrc]; exact HC8.out.2.2.1),y03 o (HC8.out.2.2.2.off 0) (by simp only [zrc]; exact HNE.out.2.1),y03 o (HC8.out.2.2.2.off 1) (by simp only [zrc]; exact HNE.out.2.1),y03 o (HC8.out.2.2.2.off 2) (by simp only [zrc]; exact HNE.out.2.1)⟩
 have c6 := HC8.out.1.cell HO.out.2.2 (show 9 < 17 by omega); have c7 := HC8.out.1.cell HO.out.2.2 (show 10 < 17 by omega); have c8 := HC8.out.1.cell HO.out.2.2 (show 11 < 17 by omega);rw [← HXK.out] at c6 c7 c8;simp only [bc] at c6 c7 c8;refine wp_region_held_drew (S := (fun w' => Only [g] w8 w' ∧ w'.cell? (Y kx 1) = some (.pointer (some (Y g (k * 17)))) ∧ Zc w' rb 0 (mul a (mul j y)) ∧ Zc w' rb 1 (mul b (mul j y)) ∧ Zc w' rb 2 (mul c (mul j y)))) (by kernel_rfl) ?_ (fun hJ1 => ?_)
 ·exact HK.out _ (Only.refl _ _).drew
 refine tkU 0 (h:=tkU 1 (h:=tkU 2 (h:=tkV 3 ?_)));try simp only [zP]
 refine tkU 4 (h:=tkU 5 (h:=tkV 7 ?_));try simp only [zP]
 refine rdW 6 rfl fun K hK => ?_;simp only [zQ];go_simp;skip;try go_wp2_with fail
 refine hK.out _ _ ?_ fun hJ2 => ?_
 ·exact HK.out _ (Only.refl _ _).drew
 clear hK K hJ1;try simp only [zP]
 refine rdW 8 rfl fun K hK => ?_;simp only [zQ];go_simp
 (go_at_call 73; refine (y1y _ _ _ _ _ _ _).mono ?_; rintro e w10 ⟨rfl,k6⟩)
 try go_wp2_with fail
 refine hK.out _ _ ?_ fun hJ3 => ?_
 ·exact HK.out _ (Only.of_kept ((Kept.refl w8).drew.trans k6))
 clear hK K hJ2;try simp only [zP]
 have K7 : Hid (Kept w8 w10) := (Kept.refl w8).drew.trans k6;have e6 := y00 K7.out c6; have e7 := y00 K7.out c7; have e8 := y00 K7.out c8;have f6 := y01 K7.out (HC8.out.1.free (k * 17 + 9)); have f7 := y01 K7.out (HC8.out.1.free (k * 17 + 10)); have f8 := y01 K7.out (HC8.out.1.free (k * 17 + 11));clear k6 c6 c7 c8;refine tkU 9 (h:=tkV 10 ?_);try simp only [zP]
 refine rdW 11 rfl fun K hK => ?_;simp only [zQ];go_simp;refine hK.out _ _ ?_ fun hJ4 => ?_
 ·exact HK.out _ ((((Only.of_kept K7.out).setCell (p := Y g (k * 17 + 9)) (Or.inl (by simp)) _).setCell (p := Y g (k * 17 + 10)) (Or.inl (by simp)) _).setCell (p := Y g (k * 17 + 11)) (Or.inl (by simp)) _)
 clear hK K;try simp only [zP]
 refine wpAnyH_done (by kernel_rfl) ?_ _
 have HB9 : Hid (OwnB (((w10.setCell (Y g (k * 17 + 9)) (I (add bk.vx (mul a (mul j y))))).setCell (Y g (k * 17 + 10)) (I (add bk.vy (mul b (mul j y))))).setCell (Y g (k * 17 + 11)) (I (add bk.vz (mul c (mul j y))))) g n (upd (B1) k (moreV (B1 k) a b c (mul j y))) ∧ Only [g] w8 (((w10.setCell (Y g (k * 17 + 9)) (I (add bk.vx (mul a (mul j y))))).setCell (Y g (k * 17 + 10)) (I (add bk.vy (mul b (mul j y))))).setCell (Y g (k * 17 + 11)) (I (add bk.vz (mul c (mul j y)))))) := by
  refine ⟨?_,(((Only.of_kept K7.out).setCell (p := Y g (k * 17 + 9)) (Or.inl (by simp)) _).setCell (p := Y g (k * 17 + 10)) (Or.inl (by simp)) _).setCell (p := Y g (k * 17 + 11)) (Or.inl (by simp)) _⟩;have h1 := (HC8.out.1.only (Only.of_kept (D := []) K7.out) (by simp)).putSp HO.out.2.2 (add bk.vx (mul a (mul j y))) (add bk.vy (mul b (mul j y))) (add bk.vz (mul c (mul j y)));rw [HXK.out] at h1 ⊢;exact h1
 clear hJ4 HK e6 e7 e8 f6 f7 f8 K7;go_wp2_with fail
 refine bodyPost_end (results_none rfl _ _ _) rfl ?_;refine ⟨rfl,?_,?_⟩
 ·have e1 : giveX B i k x y a b c j = upd B1 k (moreV (B1 k) a b c (mul j y)) := by rw [HB1.out]; rfl
  rw [e1]; exact HB9.out.1
 ·exact (((Only.refl [g] w).trans (H5.out.1.mono (by simp))).trans HB8.out.2).trans HB9.out.2
theorem y8e (g n i k : Nat) (x y al : Int) (v : V3) (dp : Int) (B : Nat → Bd) (p q : Bd) (w : World) (h : OwnB w g n B) (hi : i < n) (hk : k < n) (hp : p = B i) (hq : q = B k) :
  Calls Tryz.prog 117 #[.agg #[.pointer (some (Y g (i * 17))),.pointer (some (Y g (k * 17))),I x,I y,I al,I v.x,I v.y,I v.z,I dp]] w fun e w' => e = .returned (.agg #[I (sub q.vx p.vx),I (sub q.vy p.vy),I (sub q.vz p.vz)]) ∧ Kept w w' := by
 have c0 := h.cell hi (show 9 < 17 by omega); have c1 := h.cell hi (show 10 < 17 by omega); have c2 := h.cell hi (show 11 < 17 by omega);have d0 := h.cell hk (show 9 < 17 by omega); have d1 := h.cell hk (show 10 < 17 by omega); have d2 := h.cell hk (show 11 < 17 by omega);rw [← hp] at c0 c1 c2;rw [← hq] at d0 d1 d2;have HC : Hid (SpAt w g i k p q) := ⟨c0,c1,c2,d0,d1,d2⟩;have HG : Hid (g < w.heap.size) := h.lt;clear h hi hk hp hq c0 c1 c2 d0 d1 d2;go_enter Tryz.func117,Tryz.ntmps117
 go_upto_region 1 with fail
 have H0 : Hid (Kept w ((w.alloc (.cells #[.pointer (some (Y g (i * 17))),.pointer (some (Y g (k * 17))),I x,I y,I al,I v.x,I v.y,I v.z,I dp] 131)).alloc (.cells #[I 0,I 0,I 0] 23)) ∧ MtAt ((w.alloc (.cells #[.pointer (some (Y g (i * 17))),.pointer (some (Y g (k * 17))),I x,I y,I al,I v.x,I v.y,I v.z,I dp] 131)).alloc (.cells #[I 0,I 0,I 0] 23)) w.heap.size g i k x y al v dp ∧ VecAt ((w.alloc (.cells #[.pointer (some (Y g (i * 17))),.pointer (some (Y g (k * 17))),I x,I y,I al,I v.x,I v.y,I v.z,I dp] 131)).alloc (.cells #[I 0,I 0,I 0] 23)) (w.heap.size + 1) 0 0 0) := by
  have hs : (w.alloc (.cells #[.pointer (some (Y g (i * 17))),.pointer (some (Y g (k * 17))),I x,I y,I al,I v.x,I v.y,I v.z,I dp] 131)).heap.size = w.heap.size + 1 := by simp
  have hb := (MapKept.heap_alloc (w.alloc (.cells #[.pointer (some (Y g (i * 17))),.pointer (some (Y g (k * 17))),I x,I y,I al,I v.x,I v.y,I v.z,I dp] 131)) (.cells #[I 0,I 0,I 0] 23)).1;rw [hs] at hb;exact ⟨((Kept.refl w).alloc _ _).alloc _ _,MtAt.only (MapKept.heap_alloc w _).1 ((Only.refl [] _).alloc _) (by simp),hb⟩
 have HX : Hid (w.heap.size ≤ w.heap.size + 1 ∧ w.heap.size ≠ w.heap.size + 1 ∧ g ≠ w.heap.size + 1) := by have := HG.out; exact ⟨by omega,by omega,by omega⟩
 revert H0 HX;generalize w.heap.size + 1 = r;generalize hkx : w.heap.size = kx;generalize World.alloc (World.alloc w _) _ = w1;intro H0 HX;have HKX : Hid (w.heap.size = kx) := hkx;clear hkx
 have HK : Hid (∀ w',Only [r] w1 w' → Only [r] w1 w' ∧ (w'.cell? (Y kx 0) = some (.pointer (some (Y g (i * 17)))) ∧ w'.cell? (Y kx 1) = some (.pointer (some (Y g (k * 17))))) ∧ w'.cell? (Y g (i * 17 + 9)) = some (I p.vx) ∧ w'.cell? (Y g (i * 17 + 10)) = some (I p.vy) ∧ w'.cell? (Y g (i * 17 + 11)) = some (I p.vz) ∧ w'.cell? (Y g (k * 17 + 9)) = some (I q.vx) ∧ w'.cell? (Y g (k * 17 + 10)) = some (I q.vy) ∧ w'.cell? (Y g (k * 17 + 11)) = some (I q.vz)) := fun w' o => by
  have s := HC.out;have hk1 := H0.out.1
  exact ⟨o,⟨y03 o (H0.out.2.1.off 0) (by simp only [zrc]; exact HX.out.2.1),y03 o (H0.out.2.1.off 1) (by simp only [zrc]; exact HX.out.2.1)⟩,
   y03 o (y00 hk1 s.1) (by simp only [zrc]; exact HX.out.2.2),y03 o (y00 hk1 s.2.1) (by simp only [zrc]; exact HX.out.2.2),y03 o (y00 hk1 s.2.2.1) (by simp only [zrc]; exact HX.out.2.2),y03 o (y00 hk1 s.2.2.2.1) (by simp only [zrc]; exact HX.out.2.2),y03 o (y00 hk1 s.2.2.2.2.1) (by simp only [zrc]; exact HX.out.2.2),y03 o (y00 hk1 s.2.2.2.2.2) (by simp only [zrc]; exact HX.out.2.2)⟩
 refine wp_region_held_drew (S := (fun w' => Only [r] w1 w' ∧ (w'.cell? (Y kx 0) = some (.pointer (some (Y g (i * 17)))) ∧ w'.cell? (Y kx 1) = some (.pointer (some (Y g (k * 17))))) ∧ Zc w' g (i * 17 + 9) p.vx ∧ Zc w' g (i * 17 + 10) p.vy ∧ Zc w' g (i * 17 + 11) p.vz ∧ Zc w' g (k * 17 + 9) q.vx ∧ Zc w' g (k * 17 + 10) q.vy ∧ Zc w' g (k * 17 + 11) q.vz)) (by kernel_rfl) ?_ (fun hJ1 => ?_)
 ·exact HK.out _ (Only.refl _ _).drew
 refine tkU 0 (h:=tkU 1 (h:=tkU 2 (h:=tkV 3 ?_)));try simp only [zP]
 refine tkU 4 (h:=tkU 5 (h:=tkU 6 (h:=tkV 7 ?_)));try simp only [zP]
 refine tkU 8 (h:=tkV 9 ?_);try simp only [zP]
 refine rdW 10 rfl fun K hK => ?_;simp only [zQ];go_simp
 (go_at_call 96; refine (y0o _ _ _ _ _ _ _).mono ?_; rintro e w2 ⟨rfl,k2⟩)
 try go_wp2_with fail
 refine hK.out _ _ ?_ fun hJ2 => ?_
 ·exact HK.out _ (Only.of_kept ((Kept.refl w1).drew.trans k2))
 clear hK K hJ1;try simp only [zP]
 have K2 : Hid (Kept w1 w2) := (Kept.refl w1).drew.trans k2;clear k2;have e0 := y00 K2.out (H0.out.2.2.off 0); have e1 := y00 K2.out (H0.out.2.2.off 1); have e2 := y00 K2.out (H0.out.2.2.off 2);have f0 := y01 K2.out (H0.out.2.2.free 0); have f1 := y01 K2.out (H0.out.2.2.free 1); have f2 := y01 K2.out (H0.out.2.2.free 2);refine rdW 11 rfl fun K hK => ?_;simp only [zQ];go_simp;refine hK.out _ _ ?_ fun hJ3 => ?_
 ·exact HK.out _ ((((Only.of_kept K2.out).setCell (p := Y r 0) (Or.inl (by simp)) _).setCell (p := Y r 1) (Or.inl (by simp)) _).setCell (p := Y r 2) (Or.inl (by simp)) _)
 clear hK K;try simp only [zP]
 refine wpAnyH_done (by kernel_rfl) ?_ _;have z0 : (((w2.setCell (Y r 0) (I (sub q.vx p.vx))).setCell (Y r 1) (I (sub q.vy p.vy))).setCell (Y r 2) (I (sub q.vz p.vz))).cell? (Y r 0) = some (I (sub q.vx p.vx)) := by go_simp
 have z1 : (((w2.setCell (Y r 0) (I (sub q.vx p.vx))).setCell (Y r 1) (I (sub q.vy p.vy))).setCell (Y r 2) (I (sub q.vz p.vz))).cell? (Y r 1) = some (I (sub q.vy p.vy)) := by go_simp
 have z2 : (((w2.setCell (Y r 0) (I (sub q.vx p.vx))).setCell (Y r 1) (I (sub q.vy p.vy))).setCell (Y r 2) (I (sub q.vz p.vz))).cell? (Y r 2) = some (I (sub q.vz p.vz)) := by go_simp
 have hfin : Kept w (((w2.setCell (Y r 0) (I (sub q.vx p.vx))).setCell (Y r 1) (I (sub q.vy p.vy))).setCell (Y r 2) (I (sub q.vz p.vz))) := by
  have h1 := HX.out.1;have h2 := HKX.out;exact (((H0.out.1.trans K2.out).setCell (p := Y r 0) (by show w.heap.size ≤ r; omega) _).setCell (p := Y r 1) (by show w.heap.size ≤ r; omega) _).setCell (p := Y r 2) (by show w.heap.size ≤ r; omega) _
 go_wp2_with fail
 exact bodyPost_ret (v := .agg #[I (sub q.vx p.vx),I (sub q.vy p.vy),I (sub q.vz p.vz)]) (by simp [results,Tryz.results117,go_sem,z0,z1,z2]) rfl ⟨rfl,hfin⟩
end Go.Proofs.YtbenlgandjjopaaGreatDoor
