/- . -/
import Derived.Test.YtbenlgandjjopaaGreatDoorN27
import Derived.Test.YtbenlgandjjopaaGreatDoorN28
open List renaming getElem?_toArray → zqg
open Go.Value renaming int → J
open Go.IntKind renaming i64 → U
open List renaming mem_singleton → zrc
namespace Go.Proofs.YtbenlgandjjopaaGreatDoor
set_option maxRecDepth 100000
set_option maxHeartbeats 8000000
open Go.ChangeShapes Go.WideShapes Go.ChangeAt Go.RowKit
set_option linter.unusedVariables false
set_option linter.unusedSimpArgs false
variable {E : List Nat} {x g n cap km kn : Nat} {c : Wc} {a : Option Addr} {la st : Int} {q : Bd} {w' w w0 wr : World} {B C : Nat → Bd}
def spawnR (c : Wc) (B : Nat → Bd) (n : Nat) (q : Bd) : Int := if rightW q = 0 then (if 60 ≤ n ∨ satX B n q.ow c.qt = true then 4 else 0) else rightW q
def RSpPost (E : List Nat) (w0 : World) (x : Nat) (c : Wc) (n : Nat) (la st : Int) (B : Nat → Bd) (q : Bd) (e : Ending) (w' : World) : Prop :=
 (spawnR c B n q = 0 → e = .returned (.tuple #[J U (la + 1),J U 0]) ∧ ∃ g a cap,RfW E w0 x g c a (n + 1) cap (la + 1) st (upd B n (numB q (la + 1))) w') ∧
 (spawnR c B n q ≠ 0 → e = .returned (.tuple #[J U 0,J U (spawnR c B n q)]) ∧ ∃ g a cap,RfW E w0 x g c a n cap la st B w')
theorem RSpPost.bad {k : Int} (h : spawnR c B n q = k) (hk : k ≠ 0) (hw : RfW E w0 x g c a n cap la st B w') : RSpPost E w0 x c n la st B q (.returned (.tuple #[I 0,I k])) w' :=
 ⟨fun e => absurd (h.symm.trans e) hk,fun _ => ⟨by rw [h],g,a,cap,hw⟩⟩
structure SpR (E : List Nat) (w0 : World) (x g : Nat) (c : Wc) (a : Option Addr) (n cap : Nat) (la st : Int) (B : Nat → Bd) (kb : Nat) (q : Bd) (wr : World) : Prop where
 ww : RfW E w0 x g c a n cap la st B wr
 at' : BodyAt wr kb q
 kx : kb ≠ x
 kg : kb ≠ g
 knew : w0.heap.size ≤ kb
theorem SpR.keep {E : List Nat} {w0 : World} {x g : Nat} {c : Wc} {a : Option Addr} {n cap : Nat} {la st : Int} {B : Nat → Bd} {kb : Nat} {q : Bd} {wr w' : World} (h : SpR E w0 x g c a n cap la st B kb q wr) (o : Only [] wr w') : SpR E w0 x g c a n cap la st B kb q w' :=
 ⟨h.ww.keep o,h.at'.only o,h.kx,h.kg,h.knew⟩
theorem RfW.last {E : List Nat} {w : World} {x g : Nat} {c : Wc} {a : Option Addr} {n cap : Nat} {la st : Int} {C : Nat → Bd} {wr : World} (h : RfW E w x g c a n cap la st C wr) (la' : Int) : RfW E w x g c a n cap la' st C (wr.setCell (Y x 8) (I la')) := by
 have o : Only [x] wr (wr.setCell (Y x 8) (I la')) := (Only.refl [x] wr).setCell (p := Y x 8) (Or.inl (by simp)) _;exact ⟨h.wa.last la',h.own.onlyN o (fun _ => by simp only [zrc]; exact fun e => h.xg e.symm),Nat.lt_of_lt_of_le h.glt o.size,h.xg,h.xnew,h.gnew,h.only.then o (fun b hb => by simp only [zrc] at hb; subst hb; exact h.xnew),h.sl,h.nc⟩
theorem RfW.apart {G : List Nat} (h : RfW E w x g c a n cap la st C wr) (o : Only G wr w') (hx : x ∉ G) (hg : g ∉ G) (hE : ∀ b ∈ G,w.heap.size ≤ b) : RfW E w x g c a n cap la st C w' :=
 ⟨h.wa.only o hx,h.own.onlyN o (fun _ => hg),Nat.lt_of_lt_of_le h.glt o.size,h.xg,h.xnew,h.gnew,h.only.then o (fun b hb => Or.inr (hE b hb)),h.sl,h.nc⟩
theorem BodyAt.grown (h : BodyAt w km q) (g : w.grownBy w' (some kn)) (hne : km ≠ kn) : BodyAt w' km q :=
 (g.block km (Array.getElem?_eq_some_iff.1 h).1 (fun e => by injection e with e; exact hne e)).trans h
theorem yhd (h : BodyAt w km q) : ∀ j u,(bdL q)[j]? = some u → w.cell? ((Y km 0).add j) = some u := fun j u hj => by
 have e : (Y km 0).add j = (Y km j) := by unfold Addr.add; split <;> simp_all
 rw [e,h.off j,zqg];exact hj
theorem y97 (w : World) (a : Option Addr) (n cap : Nat) (B : Nat → Bd) (kn : Nat) (h : w.ownsRow kn 45 17 (.slice (some (Y kn 0)) 0 0) 0 []) (hb : BodiesAt w a n B) (hsl : SlArg a n cap) (hn : n ≤ 60) (hk : kn < w.heap.size) :
  ∃ v1 w8,(Builtin.append_ #[36,36] 36 #[.slice (some (Y kn 0)) 0 0,.slice a n cap]).run Tryz.prog w = .ok v1 w8 ∧ w8.ownsRow kn 45 17 v1 n (rowsL B n) ∧ w.grownBy w8 (some kn) := by
 obtain ⟨i2,hi0,hz0,hz1,hz2⟩ := y0k bodyInfo
 cases a with
 | none =>
  obtain ⟨rfl,rfl⟩ := hsl rfl;refine ⟨.slice (some (Y kn 0)) 0 0,w,?_,h,?_⟩
  ·have h0 := Tryz.underlying36
   go_simp
  ·exact ⟨rfl,rfl,rfl,Nat.le_refl _,fun _ _ _ => rfl⟩
 | some ad =>
  obtain ⟨v1,w8,hr8,hown1,hgrow1,hnil1,hloc1⟩ := run_append_own_at (P := Tryz.prog) w kn 36 36 45 i2 (.agg #[I 0,I 0,I 0,I 0,I 0,I 0,I 0,I 0,I 0,I 0,I 0,I 0,I 0,I 0,I 0,I 0,I 0]) 17 136 Tryz.underlying36 hi0 hz0 hz1 hz2 rfl (by decide) (.slice (some (Y kn 0)) 0 0) 0 [] h ad n cap (rowsL B n) (y18 B n) (y2c hb) (y1t B n) (by unfold maxLen; omega) (by omega) (by omega);rw [Nat.zero_add,List.nil_append] at hown1;exact ⟨v1,w8,hr8,hown1,hgrow1⟩
theorem ybl (w : World) (n : Nat) (B : Nat → Bd) (kn : Nat) (v1 : Value) (q : Bd) (km : Nat) (h : w.ownsRow kn 45 17 v1 n (rowsL B n)) (hk : kn < w.heap.size) (hq : BodyAt w km q) (hn : n ≤ 60) :
  ∃ v2 w9,(Builtin.append_ #[36,36] 36 #[v1,.slice (some (Y km 0)) 1 1]).run Tryz.prog w = .ok v2 w9 ∧ w9.ownsRow kn 45 17 v2 (n + 1) (rowsL (upd B n q) (n + 1)) ∧ (∀ wd,Only [] wd w → wd.heap.size ≤ kn → Only [] wd w9) := by
 obtain ⟨i2,hi0,hz0,hz1,hz2⟩ := y0k bodyInfo;obtain ⟨v2,w9,hr9,hown2,hgrow2,hnil2,hloc2⟩ := run_append_own_at (P := Tryz.prog) w kn 36 36 45 i2 (.agg #[I 0,I 0,I 0,I 0,I 0,I 0,I 0,I 0,I 0,I 0,I 0,I 0,I 0,I 0,I 0,I 0,I 0]) 17 136 Tryz.underlying36 hi0 hz0 hz1 hz2 rfl (by decide) v1 n (rowsL B n) h (Y km 0) 1 1 (bdL q) (y2y q) (yhd hq) (fun u hu => y1t (fun _ => q) 1 u (by show u ∈ [] ++ bdL q; simpa using hu)) (by unfold maxLen; omega) (by omega) (by omega);refine ⟨v2,w9,hr9,by rw [ya4]; exact hown2,fun wd o hs => o.grown hgrow2 (fun k hk2 => Or.inr ?_)⟩;have := rowsBlock h hk2;omega
theorem y6p {wd w9 : World} {v2 : Value} (h : RfW E w0 x g c a n cap la st B wd) (o : Only [] wd w9) (hk : wd.heap.size ≤ kn) (hown : w9.ownsRow kn 45 17 v2 (n + 1) (rowsL C (n + 1))) :
  ∃ a' c',v2 = .slice a' (n + 1) c' ∧ ∃ g',RfW E w0 x g' c a' (n + 1) c' la st C (w9.setCell (Y x 7) (.slice a' (n + 1) c')) := by
 obtain ⟨a',g',c',rfl,hS,hgb,hsl⟩ := OwnS.of_rowN hown;have := hgb (by omega);exact ⟨a',c',rfl,g',h.regrow o hS (by omega) (hS.lt (by omega)) hsl (Room.of_row hown).le⟩
theorem y9o (w0 : World) (x g : Nat) (c : Wc) (a : Option Addr) (n cap : Nat) (la st : Int) (B : Nat → Bd) (q : Bd) (w : World) (hn : n ≤ 60) (h : RfW E w0 x g c a n cap la st B w) (hla : 0 ≤ la) (hla' : la ≤ 1000000) :
  Calls Tryz.prog 7 #[.pointer (some (Y x 0)),.agg (bdA q)] w (RSpPost E w0 x c n la st B q) := by
 have HW : Hid (RfW E w0 x g c a n cap la st B w ∧ n ≤ 60) := ⟨h,hn⟩;have HL : Hid (0 ≤ la ∧ la ≤ 1000000) := ⟨hla,hla'⟩;clear h hn hla hla';go_enter Tryz.func7,Tryz.ntmps7
 go_upto_region 1 with fail
 have H1 : Hid (SpR E w0 x g c a n cap la st B w.heap.size q (w.alloc (.cells (bdA q) 45))) := by
  have o := (Only.refl [] w).alloc (.cells (bdA q) 45);refine ⟨HW.out.1.keep o,(MapKept.heap_alloc w _).1,?_,?_,HW.out.1.only.size⟩
  ·have := HW.out.1.wa.lt; omega
  ·have := HW.out.1.glt; omega
 revert H1;generalize w.heap.size = kb;generalize World.alloc w _ = w1;intro H1;have e2 := H1.out.at'.off 2; have e3 := H1.out.at'.off 3; have e4 := H1.out.at'.off 4; have e5 := H1.out.at'.off 5;simp only [zR] at e2 e3 e4 e5;go_wp2_with fail
 refine (y9c _ _ _ _ _).mono ?_;rintro e w2 ⟨rfl,k2⟩;have H2 : Hid (SpR E w0 x g c a n cap la st B kb q w2) := H1.out.keep (Only.of_kept k2);clear e2 e3 e4 e5 k2 H1
 cases h0 : rightB q.kd q.sx q.sy q.sz with
 | false =>
  have HE : Hid (spawnR c B n q = 1) := by show spawnR c B n q = 1; unfold spawnR rightW; simp [h0]
  clear h0;go_wp2_with fail
  exact bodyPost_ret (v := .tuple #[I 0,I 1]) (by simp [results,Tryz.results7,go_sem]) rfl (RSpPost.bad HE.out (by decide) H2.out.ww)
 | true =>
  have G0 : Hid (rightB q.kd q.sx q.sy q.sz = true) := h0;clear h0;have e1 := H2.out.at'.off 1; have e15 := H2.out.at'.off 15;have e6 := H2.out.at'.off 6; have e7 := H2.out.at'.off 7; have e8 := H2.out.at'.off 8;simp only [zR] at e1 e15 e6 e7 e8;by_cases t0 : q.ow < 0
  ·have HE : Hid (spawnR c B n q = 2) := by show spawnR c B n q = 2; unfold spawnR rightW upX; rw [if_pos G0.out]; simp; omega
   have d0 : decide (q.ow < 0) = true := by simpa using t0
   clear t0;go_wp2_with fail
   exact bodyPost_ret (v := .tuple #[I 0,I 2]) (by simp [results,Tryz.results7,go_sem]) rfl (RSpPost.bad HE.out (by decide) H2.out.ww)
  ·have d0 : decide (q.ow < 0) = false := by simpa using t0
   by_cases t1 : 8 < q.ow
   ·have HE : Hid (spawnR c B n q = 2) := by show spawnR c B n q = 2; unfold spawnR rightW upX; rw [if_pos G0.out]; simp; omega
    have d1 : decide (8 < q.ow) = true := by simpa using t1
    clear t0 t1;go_wp2_with fail
    exact bodyPost_ret (v := .tuple #[I 0,I 2]) (by simp [results,Tryz.results7,go_sem]) rfl (RSpPost.bad HE.out (by decide) H2.out.ww)
   ·have d1 : decide (8 < q.ow) = false := by simpa using t1
    by_cases t2 : q.ms < 0
    ·have HE : Hid (spawnR c B n q = 2) := by show spawnR c B n q = 2; unfold spawnR rightW upX; rw [if_pos G0.out]; simp; omega
     have d2 : decide (q.ms < 0) = true := by simpa using t2
     clear t0 t1 t2;go_wp2_with fail
     exact bodyPost_ret (v := .tuple #[I 0,I 2]) (by simp [results,Tryz.results7,go_sem]) rfl (RSpPost.bad HE.out (by decide) H2.out.ww)
    ·have d2 : decide (q.ms < 0) = false := by simpa using t2
     by_cases t3 : 65536000 < q.ms
     ·have HE : Hid (spawnR c B n q = 2) := by show spawnR c B n q = 2; unfold spawnR rightW upX; rw [if_pos G0.out]; simp; omega
      have d3 : decide (65536000 < q.ms) = true := by simpa using t3
      clear t0 t1 t2 t3;go_wp2_with fail
      exact bodyPost_ret (v := .tuple #[I 0,I 2]) (by simp [results,Tryz.results7,go_sem]) rfl (RSpPost.bad HE.out (by decide) H2.out.ww)
     ·have d3 : decide (65536000 < q.ms) = false := by simpa using t3
      have G1 : Hid (upX q.ow 8 = true ∧ upX q.ms 65536000 = true) := ⟨by unfold upX; simp; omega,by unfold upX; simp; omega⟩;clear t0 t1 t2 t3;go_wp2_with fail
      refine (y23 _ _ _ _ _ (by decide) (by decide)).mono ?_;rintro e w3 ⟨rfl,k3⟩;have H3 : Hid (SpR E w0 x g c a n cap la st B kb q w3) := H2.out.keep (Only.of_kept k3);clear e6 e7 e8 e1 e15 d0 d1 d2 d3;clear k3 H2
      cases hb0 : beyX 65536000 q.ax q.ay q.az with
      | true =>
       have HE : Hid (spawnR c B n q = 2) := by show spawnR c B n q = 2; unfold spawnR rightW; rw [if_pos G0.out]; simp [hb0]
       clear hb0;go_wp2_with fail
       exact bodyPost_ret (v := .tuple #[I 0,I 2]) (by simp [results,Tryz.results7,go_sem]) rfl (RSpPost.bad HE.out (by decide) H3.out.ww)
      | false =>
       have J0 : Hid (beyX 65536000 q.ax q.ay q.az = false) := hb0;clear hb0;have e9 := H3.out.at'.off 9; have e10 := H3.out.at'.off 10; have e11 := H3.out.at'.off 11;simp only [zR] at e9 e10 e11;go_wp2_with fail
       refine (y23 _ _ _ _ _ (by decide) (by decide)).mono ?_;rintro e w4 ⟨rfl,k4⟩;have H4 : Hid (SpR E w0 x g c a n cap la st B kb q w4) := H3.out.keep (Only.of_kept k4);clear e9 e10 e11;clear k4 H3
       cases hb1 : beyX 6553600 q.vx q.vy q.vz with
       | true =>
        have HE : Hid (spawnR c B n q = 2) := by show spawnR c B n q = 2; unfold spawnR rightW; rw [if_pos G0.out]; simp [hb1]
        clear hb1;go_wp2_with fail
        exact bodyPost_ret (v := .tuple #[I 0,I 2]) (by simp [results,Tryz.results7,go_sem]) rfl (RSpPost.bad HE.out (by decide) H4.out.ww)
       | false =>
        have J1 : Hid (beyX 6553600 q.vx q.vy q.vz = false) := hb1;clear hb1;have e12 := H4.out.at'.off 12; have e13 := H4.out.at'.off 13; have e14 := H4.out.at'.off 14;simp only [zR] at e12 e13 e14;go_wp2_with fail
        refine (y23 _ _ _ _ _ (by decide) (by decide)).mono ?_;rintro e w5 ⟨rfl,k5⟩;have H5 : Hid (SpR E w0 x g c a n cap la st B kb q w5) := H4.out.keep (Only.of_kept k5);clear e12 e13 e14;clear k5 H4
        cases hb2 : beyX 6553600 q.px q.py q.pz with
        | true =>
         have HE : Hid (spawnR c B n q = 2) := by show spawnR c B n q = 2; unfold spawnR rightW; rw [if_pos G0.out]; simp [hb2]
         clear hb2;go_wp2_with fail
         exact bodyPost_ret (v := .tuple #[I 0,I 2]) (by simp [results,Tryz.results7,go_sem]) rfl (RSpPost.bad HE.out (by decide) H5.out.ww)
        | false =>
         have J2 : Hid (beyX 6553600 q.px q.py q.pz = false) := hb2;clear hb2;have HR : Hid (rightW q = 0) := by show rightW q = 0; unfold rightW; rw [if_pos G0.out,if_pos ⟨G1.out.1,G1.out.2,J0.out,J1.out,J2.out⟩]
         have HOW : Hid (0 ≤ q.ow) := by have := G1.out.1; unfold upX at this; simp at this; exact this.1
         clear G0 G1 J0 J1 J2;have s7 := H5.out.ww.wa.off 7;simp only [zR] at s7;go_wp2_with fail
         clear s7;go_loopg [6,51] n (fun k cnt idx wr => ∃ i : Nat,cnt = I (cntO B q.ow i : Int) ∧ idx = I (i : Int) ∧ Hid (i ≤ n ∧ k = n - i) ∧ Hid (SpR E w0 x g c a n cap la st B kb q wr))
         case atStart => exact ⟨0,rfl,rfl,⟨by omega,rfl⟩,H5⟩
         case round =>
          obtain ⟨i,rfl,rfl,H1,HO⟩ := hrel;have hn := HW.out.2;have hcl := yf8 B q.ow i;by_cases hi : i < n
          ·have hil : (i : Int) < (n : Int) := by omega
           obtain ⟨g1,f1,ha1,hc⟩ := HO.out.ww.own.bodies i hi;obtain ⟨u,hq⟩ : ∃ u,B i = u := ⟨_,rfl⟩;have HC : Hid (cntO B q.ow (i + 1) = if u.ow = q.ow then cntO B q.ow i + 1 else cntO B q.ow i) := by rw [← hq]; exact rfl
           rw [hq] at hc;clear hq;subst ha1;go_upto_region 9 with (first | (refine wpList_load_mid rfl 45 (.tmp 53) rfl g1 (f1 + i * 17) rfl [I u.id,I u.ow,I u.kd,I u.sx,I u.sy,I u.sz,I u.ax,I u.ay,I u.az,I u.vx,I u.vy,I u.vz,I u.px,I u.py,I u.pz,I u.ms,I u.tm] _ (range17 hc) Tryz.underlying45 rfl bodySize ?_))
           clear hc;have H9 : Hid (SpR E w0 x g c (some (Y g1 f1)) n cap la st B kb q (wr.alloc (.cells (bdA u) 45)) ∧ BodyAt (wr.alloc (.cells (bdA u) 45)) wr.heap.size u) := ⟨HO.out.keep ((Only.refl [] wr).alloc _),(MapKept.heap_alloc wr _).1⟩;revert H9;generalize wr.heap.size = ku;generalize World.alloc wr _ = w9;intro H9;have e1 := H9.out.2.off 1;have e2 := H9.out.1.at'.off 1;simp only [zR] at e1 e2;by_cases hq : u.ow = q.ow
           ·have hqb : (u.ow == q.ow) = true := by simpa using hq
            have HC2 : Hid (cntO B q.ow (i + 1) = cntO B q.ow i + 1) := by show cntO B q.ow (i + 1) = _; rw [HC.out,if_pos hq]
            clear hq;go_wp2_with fail
            go_roundg (n - (i + 1))
            case measure => have := H1.out.2; omega
            case rel => exact ⟨i + 1,by rw [HC2.out]; go_num,by go_num,⟨by omega,rfl⟩,H9.out.1⟩
           ·have hqb : (u.ow == q.ow) = false := by simpa using hq
            have HC2 : Hid (cntO B q.ow (i + 1) = cntO B q.ow i) := by show cntO B q.ow (i + 1) = _; rw [HC.out,if_neg hq]
            clear hq;go_wp2_with fail
            go_roundg (n - (i + 1))
            case measure => have := H1.out.2; omega
            case rel => exact ⟨i + 1,by rw [HC2.out],by go_num,⟨by omega,rfl⟩,H9.out.1⟩
          ·have hil : ¬ (i : Int) < (n : Int) := by omega
           obtain rfl : i = n := by have := H1.out.1; omega
           clear H1 hi hcl;have e1 := HO.out.at'.off 1;have s6 := HO.out.ww.wa.off 6;have s7 := HO.out.ww.wa.off 7;simp only [zR] at e1 s6 s7;by_cases h60 : 60 ≤ i
           ·have HE : Hid (spawnR c B i q = 4) := by show spawnR c B i q = 4; unfold spawnR; rw [if_pos HR.out,if_pos (Or.inl h60)]
            have h6 : decide (60 ≤ (i : Int)) = true := by simp; omega
            clear h60;go_wp2_with fail
            exact bodyPost_ret (v := .tuple #[I 0,I 4]) (by simp [results,Tryz.results7,go_sem]) rfl (RSpPost.bad HE.out (by decide) HO.out.ww)
           ·have h6 : decide (60 ≤ (i : Int)) = false := by simp; omega
            have HN : Hid (i < 60) := by show i < 60; omega
            clear h60;by_cases hf : 0 < q.ow ∧ c.qt ≤ (cntO B q.ow i : Int)
            ·have HE : Hid (spawnR c B i q = 4) := by show spawnR c B i q = 4; unfold spawnR; rw [if_pos HR.out,if_pos (Or.inr (by unfold satX; rw [if_neg (by omega)]; simpa using hf.2))]
             have hob : decide (0 < q.ow) = true := by simpa using hf.1
             have hsb : decide (c.qt ≤ (cntO B q.ow i : Int)) = true := by simpa using hf.2
             clear hf;go_wp2_with fail
             exact bodyPost_ret (v := .tuple #[I 0,I 4]) (by simp [results,Tryz.results7,go_sem]) rfl (RSpPost.bad HE.out (by decide) HO.out.ww)
            ·have HE : Hid (spawnR c B i q = 0) := by show spawnR c B i q = 0; have hn := HN.out; have hw := HOW.out; unfold spawnR; rw [if_pos HR.out,if_neg]; unfold satX; split <;> simp <;> omega
             go_upto_region 12 with fail
             go_cut [81] from 63 (fun s81 wx => s81 = .bool false ∧ wr = wx)
             case first =>
              by_cases ho : 0 < q.ow
              ·have hob : decide (0 < q.ow) = true := by simpa using ho
               have hsb : decide (c.qt ≤ (cntO B q.ow i : Int)) = false := by simp; omega
               clear ho hf;go_wp2_with fail
               go_meet
               exact ⟨rfl,rfl⟩
              ·have hob : decide (0 < q.ow) = false := by simpa using ho
               clear ho hf;go_wp2_with fail
               go_meet
               exact ⟨rfl,rfl⟩
             case rest =>
              obtain ⟨rfl,rfl⟩ := hcut;clear hf;go_upto_region 14 with fail
              have hl1 := HL.out.1;have hl2 := HL.out.2;clear e1 s6 s7;have l8 := HO.out.ww.wa.off 8;have f8 := HO.out.ww.wa.free 8;simp only [zR] at l8;go_upto_region 15 with fail
              have H6 : Hid (SpR E w0 x g c a i cap (la + 1) st B kb q (wr.setCell (Y x 8) (I (la + 1)))) := by
               have o : Only [x] wr (wr.setCell (Y x 8) (I (la + 1))) := (Only.refl [x] wr).setCell (p := Y x 8) (Or.inl (by simp)) _;exact ⟨HO.out.ww.last _,HO.out.at'.onlyD o (by simp only [zrc]; exact HO.out.kx),HO.out.kx,HO.out.kg,HO.out.knew⟩
              clear l8 f8 HO;generalize World.setCell wr _ _ = w6 at H6 ⊢;have l8 := H6.out.ww.wa.off 8;have c0 := H6.out.at'.off 0;have f0 := H6.out.at'.free 0;simp only [zR] at l8 c0;go_upto_region 16 with fail
              have H7 : Hid (SpR E w0 x g c a i cap (la + 1) st B kb (numB q (la + 1)) (w6.setCell (Y kb 0) (I (la + 1)))) := by
               have o : Only [kb] w6 (w6.setCell (Y kb 0) (I (la + 1))) := (Only.refl [kb] w6).setCell (p := Y kb 0) (Or.inl (by simp)) _;exact ⟨H6.out.ww.apart o (by simp only [zrc]; exact fun e => H6.out.kx e.symm) (by simp only [zrc]; exact fun e => H6.out.kg e.symm) (fun b hb => by simp only [zrc] at hb; rw [hb]; exact H6.out.knew),H6.out.at'.num _,H6.out.kx,H6.out.kg,H6.out.knew⟩
              clear l8 c0 f0 H6;generalize World.setCell w6 _ _ = w7 at H7 ⊢;obtain ⟨q',hq'⟩ : ∃ q',q' = numB q (la + 1) := ⟨_,rfl⟩;have HQI : Hid (q' = numB q (la + 1) ∧ q'.id = la + 1) := ⟨hq',by rw [hq']; rfl⟩;rw [← hq'] at H7;clear hq' hl1 hl2;refine y0v 10 (fun w' => w'.cell? (Y x 7) = some (.slice a i cap) ∧ AllO w' kb 0 q') (by kernel_rfl) ?_ (fun hJ1 => ?_)
              ·exact ⟨(H7.out.ww.wa.only (Only.refl [] w7).drew (by simp)).off 7,(H7.out.at'.only (Only.refl [] w7).drew).all⟩
              refine tkF 0 rfl ?_; refine tkF 2 rfl ?_; refine tkF 3 rfl ?_; refine tkF 4 rfl ?_;try simp only [zP]
              refine tkF 5 rfl ?_;try simp only [zP]
              refine tkF (v := (.agg (bdA q'))) 7 rfl ?_ (by intro w'' hSw; (try dsimp only at hSw); simp only [zQ]; exact ybb (k := 3) (g := kb) (o := 0) rfl (by kernel_rfl) hSw.2);try simp only [zP]
              have H8 : Hid (SpR E w0 x g c a i cap (la + 1) st B kb q' w7.drew) := H7.out.keep (Only.refl [] w7).drew;clear H7;have hH1 := hJ1;clear hJ1;generalize World.drew w7 = wd at H8 hH1 ⊢;have O : Hid (Only [] wd wd) := Only.refl _ _;obtain ⟨sz,hsz⟩ : ∃ sz,sz = wd.heap.size := ⟨_,rfl⟩;have HSZ : Hid (sz = wd.heap.size) := hsz;clear hsz;refine y05 (rs := [1,8]) (by kernel_rfl) (by simp) ?_;refine AllReadyF.cons rfl (fun K hK => ?_) (AllReadyF.cons rfl (fun K hK => ?_) AllReadyF.nil)
              ·skip
               first | (with_reducible refine iteYes ?hcx ?htx; case hcx => kernel_rfl) | rw [if_pos (by rfl)]
               simp only [zQ];go_simp;have O2 : Hid (Only [] wd (wd.alloc (.cells #[] 45))) := O.out.alloc _;refine hK.out _ _ ?_ fun hH2 => ?_
               ·exact ⟨(H8.out.ww.wa.only O2.out (by simp)).off 7,(H8.out.at'.only O2.out).all⟩
               clear hK K hH1;try simp only [zP]
               have M : Hid ((wd.alloc (.cells #[] 45)).ownsRow wd.heap.size 45 17 (.slice (some (Y wd.heap.size 0)) 0 0) 0 [] ∧ sz ≤ wd.heap.size ∧ wd.heap.size < (wd.alloc (.cells #[] 45)).heap.size) := ⟨⟨rfl,Or.inr ⟨wd.heap.size,0,#[],rfl,Nat.le_refl _,(MapKept.heap_alloc wd _).1,by omega,by unfold maxLen; omega,rfl,rfl⟩⟩,HSZ.out ▸ O.out.size,(Array.getElem?_eq_some_iff.1 (MapKept.heap_alloc wd _).1).1⟩;clear O;revert O2 M;generalize wd.heap.size = kn;generalize World.alloc wd _ = w1a at hH2 ⊢;intro O2 M;have O := O2;clear O2;refine y05 (rs := [6,8]) (by kernel_rfl) (by simp) ?_;refine AllReadyF.cons rfl (fun K hK => ?_) (AllReadyF.cons rfl (fun K hK => ?_) AllReadyF.nil)
               ·skip
                obtain ⟨v1,w2b,hr8,hown8,hgr8⟩ := y97 w1a a i cap B kn M.out.1 (H8.out.ww.own.bodies.only O.out) H8.out.ww.sl HW.out.2 M.out.2.2;have O2 : Hid (Only [] wd w2b) := O.out.grown hgr8 (fun k hk => Or.inr (by injection hk with hk; have := M.out.2.1; have := HSZ.out; omega));have R : Hid (w2b.ownsRow kn 45 17 v1 i (rowsL B i) ∧ sz ≤ kn ∧ kn < w2b.heap.size) := ⟨hown8,M.out.2.1,Nat.lt_of_lt_of_le M.out.2.2 hgr8.size⟩;clear hown8 hgr8 M O;have O := O2;clear O2;first | (with_reducible refine iteYes ?hcx ?htx; case hcx => kernel_rfl) | rw [if_pos (by rfl)]
                refine y0z (s := .tmp 95) (x := .tmp 99) (t := 36) rfl (by kernel_rfl) (by kernel_rfl) hr8 ?_;refine hK.out _ _ ?_ fun hH3 => ?_
                ·exact ⟨(H8.out.ww.wa.only O.out (by simp)).off 7,(H8.out.at'.only O.out).all⟩
                clear hK K hH2 hr8;try simp only [zP]
                refine y05 (rs := [8]) (by kernel_rfl) (by simp) ?_;refine AllReadyF.cons rfl (fun K hK => ?_) AllReadyF.nil;first | (with_reducible refine iteYes ?hcx ?htx; case hcx => kernel_rfl) | rw [if_pos (by rfl)]
                simp only [zQ];go_simp;have O2 : Hid (Only [] wd (w2b.alloc (.cells (bdA q') 45))) := O.out.alloc _;refine hK.out _ _ ?_ fun hH4 => ?_
                ·exact ⟨(H8.out.ww.wa.only O2.out (by simp)).off 7,(H8.out.at'.only O2.out).all⟩
                clear hK K hH3;try simp only [zP]
                have N : Hid (BodyAt (w2b.alloc (.cells (bdA q') 45)) w2b.heap.size q' ∧ sz ≤ w2b.heap.size) := ⟨(MapKept.heap_alloc w2b _).1,HSZ.out ▸ O.out.size⟩;have R2 : Hid ((w2b.alloc (.cells (bdA q') 45)).ownsRow kn 45 17 v1 i (rowsL B i) ∧ sz ≤ kn ∧ kn < (w2b.alloc (.cells (bdA q') 45)).heap.size) := ⟨World.ownsRow.alloc R.out.1 _,R.out.2.1,Nat.lt_of_lt_of_le R.out.2.2 ((Only.refl [] _).alloc _).size⟩;clear R;have R := R2;clear R2;clear O;revert O2 N R;generalize w2b.heap.size = km;generalize World.alloc w2b _ = w3c at hH4 ⊢;intro O2 N R;have O := O2;clear O2;obtain ⟨v2,w9,hr9,hown9,ho9⟩ := ybl w3c i B kn v1 q' km R.out.1 R.out.2.2 N.out.1 HW.out.2;have O9 : Hid (Only [] wd w9) := ho9 wd O.out (HSZ.out ▸ R.out.2.1);obtain ⟨a',c',rfl,hf9⟩ := y6p H8.out.ww O9.out (HSZ.out ▸ R.out.2.1) hown9;have HF : Hid (∃ g',RfW E w0 x g' c a' (i + 1) c' (la + 1) st (upd B i q') (w9.setCell (Y x 7) (.slice a' (i + 1) c'))) := hf9;clear hown9 ho9 hf9 R N;refine y05 (rs := [9]) (by kernel_rfl) (by simp) ?_;refine AllReadyF.cons rfl (fun K hK => ?_) AllReadyF.nil;first | (with_reducible refine iteYes ?hcx ?htx; case hcx => kernel_rfl) | rw [if_pos (by rfl)]
                refine y0z (s := .tmp 100) (x := .tmp 102) (t := 36) rfl (by kernel_rfl) (by kernel_rfl) hr9 ?_;refine hK.out _ _ ?_ fun hH5 => ?_
                ·exact ⟨(H8.out.ww.wa.only O9.out (by simp)).off 7,(H8.out.at'.only O9.out).all⟩
                clear hK K hH4 hr9;try simp only [zP]
                have c7 := (H8.out.ww.wa.only O9.out (by simp)).off 7;have f7 := (H8.out.ww.wa.only O9.out (by simp)).free 7;simp only [zR] at c7;refine y05 (rs := [10]) (by kernel_rfl) (by simp) ?_;refine AllReadyF.fin rfl (by decide) (fun K hK => ?_) AllReadyF.nil;first | (with_reducible refine iteYes ?hcx ?htx; case hcx => kernel_rfl) | rw [if_pos (by rfl)]
                simp only [zQ];go_simp;skip;refine hK.out _ _ ?_;clear hK K;try simp only [zP]
                refine y05 (rs := [11]) (by kernel_rfl) (by simp) ?_;refine AllReadyF.fin rfl (by decide) (fun K hK => ?_) AllReadyF.nil;first | (with_reducible refine iteYes ?hcx ?htx; case hcx => kernel_rfl) | rw [if_pos (by rfl)]
                simp only [zQ];go_simp;skip;refine hK.out _ _ ?_;clear hK K;try simp only [zP]
                refine y05 (rs := [12]) (by kernel_rfl) (by simp) ?_;refine AllReadyF.fin rfl (by decide) (fun K hK => ?_) AllReadyF.nil;first | (with_reducible refine iteYes ?hcx ?htx; case hcx => kernel_rfl) | rw [if_pos (by rfl)]
                simp only [zQ];go_simp;skip;refine hK.out _ _ ?_;clear hK K;try simp only [zP]
                refine y1f (by kernel_rfl) ?_ _;clear c7 f7 hH5;have HKX : Hid (kb ≠ x) := H8.out.kx;have e0 : (w9.setCell (Y x 7) (.slice a' (i + 1) c')).cell? (Y kb 0) = some (I q'.id) := (World.cell?_setCell_far _ _ _ _ (fun e => HKX.out e.symm)).trans ((H8.out.at'.only O9.out).off 0);rw [HQI.out.2] at e0;generalize World.setCell w9 _ _ = wz at HF e0 ⊢;go_wp2_with fail
                exact bodyPost_ret (v := .tuple #[I (la + 1),I 0]) (by simp [results,Tryz.results7,go_sem]) rfl ⟨fun _ => ⟨rfl,by obtain ⟨g',hg'⟩ := HF.out; exact ⟨g',a',c',HQI.out.1 ▸ hg'⟩⟩,fun e => absurd HE.out e⟩
               ·skip
                first | (with_reducible refine iteYes ?hcx ?htx; case hcx => kernel_rfl) | rw [if_pos (by rfl)]
                simp only [zQ];go_simp;have O2 : Hid (Only [] wd (w1a.alloc (.cells (bdA q') 45))) := O.out.alloc _;refine hK.out _ _ ?_ fun hH3 => ?_
                ·exact ⟨(H8.out.ww.wa.only O2.out (by simp)).off 7,(H8.out.at'.only O2.out).all⟩
                clear hK K hH2;try simp only [zP]
                have N : Hid (BodyAt (w1a.alloc (.cells (bdA q') 45)) w1a.heap.size q' ∧ sz ≤ w1a.heap.size) := ⟨(MapKept.heap_alloc w1a _).1,HSZ.out ▸ O.out.size⟩;have M2 : Hid ((w1a.alloc (.cells (bdA q') 45)).ownsRow kn 45 17 (.slice (some (Y kn 0)) 0 0) 0 [] ∧ sz ≤ kn ∧ kn < (w1a.alloc (.cells (bdA q') 45)).heap.size) := ⟨World.ownsRow.alloc M.out.1 _,M.out.2.1,Nat.lt_of_lt_of_le M.out.2.2 ((Only.refl [] _).alloc _).size⟩;have DD : Hid (w1a.heap.size ≠ kn) := by have := M.out.2.2; show _ ≠ kn; omega
                clear M;have M := M2;clear M2;clear O;revert O2 N DD M;generalize w1a.heap.size = km;generalize World.alloc w1a _ = w2b at hH3 ⊢;intro O2 N DD M;have O := O2;clear O2;refine y05 (rs := [6]) (by kernel_rfl) (by simp) ?_;refine AllReadyF.cons rfl (fun K hK => ?_) AllReadyF.nil;obtain ⟨v1,w3c,hr8,hown8,hgr8⟩ := y97 w2b a i cap B kn M.out.1 (H8.out.ww.own.bodies.only O.out) H8.out.ww.sl HW.out.2 M.out.2.2;have O2 : Hid (Only [] wd w3c) := O.out.grown hgr8 (fun k hk => Or.inr (by injection hk with hk; have := M.out.2.1; have := HSZ.out; omega));have R : Hid (w3c.ownsRow kn 45 17 v1 i (rowsL B i) ∧ sz ≤ kn ∧ kn < w3c.heap.size) := ⟨hown8,M.out.2.1,Nat.lt_of_lt_of_le M.out.2.2 hgr8.size⟩;have N2 : Hid (BodyAt w3c km q' ∧ sz ≤ km) := ⟨N.out.1.grown hgr8 DD.out,N.out.2⟩;clear N;have N := N2;clear N2;clear hown8 hgr8 M O;have O := O2;clear O2;first | (with_reducible refine iteYes ?hcx ?htx; case hcx => kernel_rfl) | rw [if_pos (by rfl)]
                refine y0z (s := .tmp 95) (x := .tmp 99) (t := 36) rfl (by kernel_rfl) (by kernel_rfl) hr8 ?_;refine hK.out _ _ ?_ fun hH4 => ?_
                ·exact ⟨(H8.out.ww.wa.only O.out (by simp)).off 7,(H8.out.at'.only O.out).all⟩
                clear hK K hH3 hr8;try simp only [zP]
                obtain ⟨v2,w9,hr9,hown9,ho9⟩ := ybl w3c i B kn v1 q' km R.out.1 R.out.2.2 N.out.1 HW.out.2;have O9 : Hid (Only [] wd w9) := ho9 wd O.out (HSZ.out ▸ R.out.2.1);obtain ⟨a',c',rfl,hf9⟩ := y6p H8.out.ww O9.out (HSZ.out ▸ R.out.2.1) hown9;have HF : Hid (∃ g',RfW E w0 x g' c a' (i + 1) c' (la + 1) st (upd B i q') (w9.setCell (Y x 7) (.slice a' (i + 1) c'))) := hf9;clear hown9 ho9 hf9 R N;refine y05 (rs := [9]) (by kernel_rfl) (by simp) ?_;refine AllReadyF.cons rfl (fun K hK => ?_) AllReadyF.nil;first | (with_reducible refine iteYes ?hcx ?htx; case hcx => kernel_rfl) | rw [if_pos (by rfl)]
                refine y0z (s := .tmp 100) (x := .tmp 102) (t := 36) rfl (by kernel_rfl) (by kernel_rfl) hr9 ?_;refine hK.out _ _ ?_ fun hH5 => ?_
                ·exact ⟨(H8.out.ww.wa.only O9.out (by simp)).off 7,(H8.out.at'.only O9.out).all⟩
                clear hK K hH4 hr9;try simp only [zP]
                have c7 := (H8.out.ww.wa.only O9.out (by simp)).off 7;have f7 := (H8.out.ww.wa.only O9.out (by simp)).free 7;simp only [zR] at c7;refine y05 (rs := [10]) (by kernel_rfl) (by simp) ?_;refine AllReadyF.fin rfl (by decide) (fun K hK => ?_) AllReadyF.nil;first | (with_reducible refine iteYes ?hcx ?htx; case hcx => kernel_rfl) | rw [if_pos (by rfl)]
                simp only [zQ];go_simp;skip;refine hK.out _ _ ?_;clear hK K;try simp only [zP]
                refine y05 (rs := [11]) (by kernel_rfl) (by simp) ?_;refine AllReadyF.fin rfl (by decide) (fun K hK => ?_) AllReadyF.nil;first | (with_reducible refine iteYes ?hcx ?htx; case hcx => kernel_rfl) | rw [if_pos (by rfl)]
                simp only [zQ];go_simp;skip;refine hK.out _ _ ?_;clear hK K;try simp only [zP]
                refine y05 (rs := [12]) (by kernel_rfl) (by simp) ?_;refine AllReadyF.fin rfl (by decide) (fun K hK => ?_) AllReadyF.nil;first | (with_reducible refine iteYes ?hcx ?htx; case hcx => kernel_rfl) | rw [if_pos (by rfl)]
                simp only [zQ];go_simp;skip;refine hK.out _ _ ?_;clear hK K;try simp only [zP]
                refine y1f (by kernel_rfl) ?_ _;clear c7 f7 hH5;have HKX : Hid (kb ≠ x) := H8.out.kx;have e0 : (w9.setCell (Y x 7) (.slice a' (i + 1) c')).cell? (Y kb 0) = some (I q'.id) := (World.cell?_setCell_far _ _ _ _ (fun e => HKX.out e.symm)).trans ((H8.out.at'.only O9.out).off 0);rw [HQI.out.2] at e0;generalize World.setCell w9 _ _ = wz at HF e0 ⊢;go_wp2_with fail
                exact bodyPost_ret (v := .tuple #[I (la + 1),I 0]) (by simp [results,Tryz.results7,go_sem]) rfl ⟨fun _ => ⟨rfl,by obtain ⟨g',hg'⟩ := HF.out; exact ⟨g',a',c',HQI.out.1 ▸ hg'⟩⟩,fun e => absurd HE.out e⟩
              ·skip
               first | (with_reducible refine iteYes ?hcx ?htx; case hcx => kernel_rfl) | rw [if_pos (by rfl)]
               simp only [zQ];go_simp;have O2 : Hid (Only [] wd (wd.alloc (.cells (bdA q') 45))) := O.out.alloc _;refine hK.out _ _ ?_ fun hH2 => ?_
               ·exact ⟨(H8.out.ww.wa.only O2.out (by simp)).off 7,(H8.out.at'.only O2.out).all⟩
               clear hK K hH1;try simp only [zP]
               have N : Hid (BodyAt (wd.alloc (.cells (bdA q') 45)) wd.heap.size q' ∧ sz ≤ wd.heap.size) := ⟨(MapKept.heap_alloc wd _).1,HSZ.out ▸ O.out.size⟩;clear O;revert O2 N;generalize wd.heap.size = km;generalize World.alloc wd _ = w1a at hH2 ⊢;intro O2 N;have O := O2;clear O2;refine y05 (rs := [1]) (by kernel_rfl) (by simp) ?_;refine AllReadyF.cons rfl (fun K hK => ?_) AllReadyF.nil;first | (with_reducible refine iteYes ?hcx ?htx; case hcx => kernel_rfl) | rw [if_pos (by rfl)]
               simp only [zQ];go_simp;have O2 : Hid (Only [] wd (w1a.alloc (.cells #[] 45))) := O.out.alloc _;refine hK.out _ _ ?_ fun hH3 => ?_
               ·exact ⟨(H8.out.ww.wa.only O2.out (by simp)).off 7,(H8.out.at'.only O2.out).all⟩
               clear hK K hH2;try simp only [zP]
               have M : Hid ((w1a.alloc (.cells #[] 45)).ownsRow w1a.heap.size 45 17 (.slice (some (Y w1a.heap.size 0)) 0 0) 0 [] ∧ sz ≤ w1a.heap.size ∧ w1a.heap.size < (w1a.alloc (.cells #[] 45)).heap.size) := ⟨⟨rfl,Or.inr ⟨w1a.heap.size,0,#[],rfl,Nat.le_refl _,(MapKept.heap_alloc w1a _).1,by omega,by unfold maxLen; omega,rfl,rfl⟩⟩,HSZ.out ▸ O.out.size,(Array.getElem?_eq_some_iff.1 (MapKept.heap_alloc w1a _).1).1⟩;have N2 : Hid (BodyAt (w1a.alloc (.cells #[] 45)) km q' ∧ sz ≤ km) := ⟨N.out.1.only ((Only.refl [] _).alloc _),N.out.2⟩;have DD : Hid (km ≠ w1a.heap.size) := by have := N.out.1.lt; show km ≠ _; omega
               clear N;have N := N2;clear N2;clear O;revert O2 M DD N;generalize w1a.heap.size = kn;generalize World.alloc w1a _ = w2b at hH3 ⊢;intro O2 M DD N;have O := O2;clear O2;refine y05 (rs := [6]) (by kernel_rfl) (by simp) ?_;refine AllReadyF.cons rfl (fun K hK => ?_) AllReadyF.nil;obtain ⟨v1,w3c,hr8,hown8,hgr8⟩ := y97 w2b a i cap B kn M.out.1 (H8.out.ww.own.bodies.only O.out) H8.out.ww.sl HW.out.2 M.out.2.2;have O2 : Hid (Only [] wd w3c) := O.out.grown hgr8 (fun k hk => Or.inr (by injection hk with hk; have := M.out.2.1; have := HSZ.out; omega));have R : Hid (w3c.ownsRow kn 45 17 v1 i (rowsL B i) ∧ sz ≤ kn ∧ kn < w3c.heap.size) := ⟨hown8,M.out.2.1,Nat.lt_of_lt_of_le M.out.2.2 hgr8.size⟩;have N2 : Hid (BodyAt w3c km q' ∧ sz ≤ km) := ⟨N.out.1.grown hgr8 DD.out,N.out.2⟩;clear N;have N := N2;clear N2;clear hown8 hgr8 M O;have O := O2;clear O2;first | (with_reducible refine iteYes ?hcx ?htx; case hcx => kernel_rfl) | rw [if_pos (by rfl)]
               refine y0z (s := .tmp 95) (x := .tmp 99) (t := 36) rfl (by kernel_rfl) (by kernel_rfl) hr8 ?_;refine hK.out _ _ ?_ fun hH4 => ?_
               ·exact ⟨(H8.out.ww.wa.only O.out (by simp)).off 7,(H8.out.at'.only O.out).all⟩
               clear hK K hH3 hr8;try simp only [zP]
               obtain ⟨v2,w9,hr9,hown9,ho9⟩ := ybl w3c i B kn v1 q' km R.out.1 R.out.2.2 N.out.1 HW.out.2;have O9 : Hid (Only [] wd w9) := ho9 wd O.out (HSZ.out ▸ R.out.2.1);obtain ⟨a',c',rfl,hf9⟩ := y6p H8.out.ww O9.out (HSZ.out ▸ R.out.2.1) hown9;have HF : Hid (∃ g',RfW E w0 x g' c a' (i + 1) c' (la + 1) st (upd B i q') (w9.setCell (Y x 7) (.slice a' (i + 1) c'))) := hf9;clear hown9 ho9 hf9 R N;refine y05 (rs := [9]) (by kernel_rfl) (by simp) ?_;refine AllReadyF.cons rfl (fun K hK => ?_) AllReadyF.nil;first | (with_reducible refine iteYes ?hcx ?htx; case hcx => kernel_rfl) | rw [if_pos (by rfl)]
               refine y0z (s := .tmp 100) (x := .tmp 102) (t := 36) rfl (by kernel_rfl) (by kernel_rfl) hr9 ?_;refine hK.out _ _ ?_ fun hH5 => ?_
               ·exact ⟨(H8.out.ww.wa.only O9.out (by simp)).off 7,(H8.out.at'.only O9.out).all⟩
               clear hK K hH4 hr9;try simp only [zP]
               have c7 := (H8.out.ww.wa.only O9.out (by simp)).off 7;have f7 := (H8.out.ww.wa.only O9.out (by simp)).free 7;simp only [zR] at c7;refine y05 (rs := [10]) (by kernel_rfl) (by simp) ?_;refine AllReadyF.fin rfl (by decide) (fun K hK => ?_) AllReadyF.nil;first | (with_reducible refine iteYes ?hcx ?htx; case hcx => kernel_rfl) | rw [if_pos (by rfl)]
               simp only [zQ];go_simp;skip;refine hK.out _ _ ?_;clear hK K;try simp only [zP]
               refine y05 (rs := [11]) (by kernel_rfl) (by simp) ?_;refine AllReadyF.fin rfl (by decide) (fun K hK => ?_) AllReadyF.nil;first | (with_reducible refine iteYes ?hcx ?htx; case hcx => kernel_rfl) | rw [if_pos (by rfl)]
               simp only [zQ];go_simp;skip;refine hK.out _ _ ?_;clear hK K;try simp only [zP]
               refine y05 (rs := [12]) (by kernel_rfl) (by simp) ?_;refine AllReadyF.fin rfl (by decide) (fun K hK => ?_) AllReadyF.nil;first | (with_reducible refine iteYes ?hcx ?htx; case hcx => kernel_rfl) | rw [if_pos (by rfl)]
               simp only [zQ];go_simp;skip;refine hK.out _ _ ?_;clear hK K;try simp only [zP]
               refine y1f (by kernel_rfl) ?_ _;clear c7 f7 hH5;have HKX : Hid (kb ≠ x) := H8.out.kx;have e0 : (w9.setCell (Y x 7) (.slice a' (i + 1) c')).cell? (Y kb 0) = some (I q'.id) := (World.cell?_setCell_far _ _ _ _ (fun e => HKX.out e.symm)).trans ((H8.out.at'.only O9.out).off 0);rw [HQI.out.2] at e0;generalize World.setCell w9 _ _ = wz at HF e0 ⊢;go_wp2_with fail
               exact bodyPost_ret (v := .tuple #[I (la + 1),I 0]) (by simp [results,Tryz.results7,go_sem]) rfl ⟨fun _ => ⟨rfl,by obtain ⟨g',hg'⟩ := HF.out; exact ⟨g',a',c',HQI.out.1 ▸ hg'⟩⟩,fun e => absurd HE.out e⟩
end Go.Proofs.YtbenlgandjjopaaGreatDoor
