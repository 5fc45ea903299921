/- . -/
import Derived.Test.YtbenlgandjjopaaGreatDoorN21
open Go.Value renaming int → J
open Go.IntKind renaming i64 → U
open List renaming mem_singleton → zrc,mem_cons → zrd
namespace Go.Proofs.YtbenlgandjjopaaGreatDoor
set_option maxRecDepth 100000
set_option maxHeartbeats 8000000
open Go.ChangeShapes Go.WideShapes Go.ChangeAt Go.RowKit
set_option linter.unusedVariables false
set_option linter.unusedSimpArgs false
variable {w w' wr : World} {n kl c1 g kt kb i ki kk k kx ky b : Nat} {bo ru ro x y z : Int} {C : Nat → Bd} {t : Tc}
def RLawAt (w : World) (kb : Nat) (bo ru ro : Int) : Prop := w.heap[kb]? = some (.cells #[J U bo,J U ru,J U ro] 35)
theorem RLawAt.off (h : RLawAt w b x y z) (j : Nat) : w.cell? (Y b j) = (#[I x,I y,I z] : Array Value)[j]? := by
 unfold RLawAt at h; simp [World.cell?,h]
theorem RLawAt.only {D : List Nat} (h : RLawAt w b x y z) (o : Only D w w') (s : b ∉ D) : RLawAt w' b x y z := (o.block b (Array.getElem?_eq_some_iff.1 h).1 s).trans h
def IdxAt (kl kt : Nat) (a1 : Option Addr) (n c1 : Nat) (t : Tc) (w' : World) : Prop := w'.cell? ⟨kl,0,none⟩ = some (.slice a1 n c1) ∧ w'.cell? ⟨kt,0,none⟩ = some (J U t.a) ∧ w'.cell? ⟨kt,1,none⟩ = some (J U t.b)
theorem IdxAt.step {a1 : Option Addr} (h : IdxAt kl kt a1 n c1 t w) (k : Kept w w') : IdxAt kl kt a1 n c1 t w' := ⟨y00 k h.1,y00 k h.2.1,y00 k h.2.2⟩
structure QW (w : World) (a : Option Addr) (g n kb kl c1 : Nat) (bo ru ro : Int) (C : Nat → Bd) (wr : World) : Prop where
 rw : RW w a g n C wr
 lw : RLawAt wr kb bo ru ro
 var : wr.cell? ⟨kl,0,none⟩ = some (.slice a n c1)
 nb : n ≠ 0 → kb ≠ g
 nl : n ≠ 0 → kl ≠ g
theorem QW.keep {w : World} {a : Option Addr} {g n kb kl c1 : Nat} {bo ru ro : Int} {C : Nat → Bd} {wr w' : World} (h : QW w a g n kb kl c1 bo ru ro C wr) (o : Only [] wr w') : QW w a g n kb kl c1 bo ru ro C w' :=
 ⟨h.rw.keep o,h.lw.only o (by simp),y09 o h.var,h.nb,h.nl⟩
theorem QW.turn {w : World} {a : Option Addr} {g n kb kl c1 : Nat} {bo ru ro : Int} {C D : Nat → Bd} {wr w' : World} (h : QW w a g n kb kl c1 bo ru ro C wr) (h0 : n ≠ 0) (hO : OwnB w' g n D) (o : Only [g] wr w') : QW w a g n kb kl c1 bo ru ro D w' := by
 have ha : a = some (Y g 0) := by
  rcases h.rw.own with q | q
  ·exact absurd q h0
  ·exact q.1
 exact ⟨h.rw.turn ha hO o,h.lw.only o (by simp only [zrc]; exact h.nb h0),y03 o h.var (by simp only [zrc]; exact h.nl h0),h.nb,h.nl⟩
structure RB (w : World) (g n kb kl c1 : Nat) (bo ru ro : Int) (kt : Nat) (t : Tc) (ki kk i k : Nat) (C : Nat → Bd) (wr : World) : Prop where
 q : QW w (some ⟨g,0,none⟩) g n kb kl c1 bo ru ro C wr
 nz : n ≠ 0
 tc : TouchAt wr kt t
 vi : wr.cell? ⟨ki,0,none⟩ = some (J U ((i : Int)))
 vk : wr.cell? ⟨kk,0,none⟩ = some (J U ((k : Int)))
 nt : kt ≠ g
 ni : ki ≠ g
 nk : kk ≠ g
theorem RB.keep {w : World} {g n kb kl c1 : Nat} {bo ru ro : Int} {kt : Nat} {t : Tc} {ki kk i k : Nat} {C : Nat → Bd} {wr w' : World} (h : RB w g n kb kl c1 bo ru ro kt t ki kk i k C wr) (o : Only [] wr w') : RB w g n kb kl c1 bo ru ro kt t ki kk i k C w' :=
 ⟨h.q.keep o,h.nz,h.tc.only o (by simp),y09 o h.vi,y09 o h.vk,h.nt,h.ni,h.nk⟩
theorem RB.turn {w : World} {g n kb kl c1 : Nat} {bo ru ro : Int} {kt : Nat} {t : Tc} {ki kk i k : Nat} {C D : Nat → Bd} {wr w' : World} (h : RB w g n kb kl c1 bo ru ro kt t ki kk i k C wr) (hO : OwnB w' g n D) (o : Only [g] wr w') : RB w g n kb kl c1 bo ru ro kt t ki kk i k D w' :=
 ⟨h.q.turn h.nz hO o,h.nz,h.tc.only o (by simp only [zrc]; exact h.nt),y03 o h.vi (by simp only [zrc]; exact h.ni),y03 o h.vk (by simp only [zrc]; exact h.nk),h.nt,h.ni,h.nk⟩
theorem RB.own (h : RB w g n kb kl c1 bo ru ro kt t ki kk i k C wr) : OwnB wr g n C := (h.q.rw.there (i := 0) (Nat.pos_of_ne_zero h.nz)).2
structure RC (w : World) (g n kb kl c1 : Nat) (bo ru ro : Int) (kt : Nat) (t : Tc) (ki kk i k : Nat) (kx ky : Nat) (x y : Int) (C : Nat → Bd) (wr : World) : Prop where
 b : RB w g n kb kl c1 bo ru ro kt t ki kk i k C wr
 vx : wr.cell? ⟨kx,0,none⟩ = some (J U x)
 vy : wr.cell? ⟨ky,0,none⟩ = some (J U y)
 nx : kx ≠ g
 ny : ky ≠ g
theorem RC.keep {w : World} {g n kb kl c1 : Nat} {bo ru ro : Int} {kt : Nat} {t : Tc} {ki kk i k : Nat} {kx ky : Nat} {x y : Int} {C : Nat → Bd} {wr w' : World} (h : RC w g n kb kl c1 bo ru ro kt t ki kk i k kx ky x y C wr) (o : Only [] wr w') : RC w g n kb kl c1 bo ru ro kt t ki kk i k kx ky x y C w' :=
 ⟨h.b.keep o,y09 o h.vx,y09 o h.vy,h.nx,h.ny⟩
theorem RC.turn {w : World} {g n kb kl c1 : Nat} {bo ru ro : Int} {kt : Nat} {t : Tc} {ki kk i k : Nat} {kx ky : Nat} {x y : Int} {C D : Nat → Bd} {wr w' : World} (h : RC w g n kb kl c1 bo ru ro kt t ki kk i k kx ky x y C wr) (hO : OwnB w' g n D) (o : Only [g] wr w') : RC w g n kb kl c1 bo ru ro kt t ki kk i k kx ky x y D w' :=
 ⟨h.b.turn hO o,y03 o h.vx (by simp only [zrc]; exact h.nx),y03 o h.vy (by simp only [zrc]; exact h.ny),h.nx,h.ny⟩
theorem RC.vars (h : RC w g n kb kl c1 bo ru ro kt t ki kk i k kx ky x y C wr) : VarsAt wr kl ki kx kk ky g n c1 i k x y ∧ (kl ≠ g ∧ ki ≠ g ∧ kx ≠ g ∧ kk ≠ g ∧ ky ≠ g) :=
 ⟨⟨h.b.q.var,h.b.vi,h.vx,h.b.vk,h.vy⟩,h.b.q.nl h.b.nz,h.b.ni,h.nx,h.b.nk,h.ny⟩
def LgAt (kl ki kk g n c1 i k : Nat) (w' : World) : Prop := w'.cell? ⟨kl,0,none⟩ = some (.slice (some ⟨g,0,none⟩) n c1) ∧ w'.cell? ⟨ki,0,none⟩ = some (J U ((i : Int))) ∧ w'.cell? ⟨kk,0,none⟩ = some (J U ((k : Int)))
theorem LgAt.step (h : LgAt kl ki kk g n c1 i k w) (o : Kept w w') : LgAt kl ki kk g n c1 i k w' := ⟨y00 o h.1,y00 o h.2.1,y00 o h.2.2⟩
def WyAt (kt kv : Nat) (v : V3) (vx vy vz : Int) (w' : World) : Prop := w'.cell? ⟨kt,2,none⟩ = some (J U v.x) ∧ w'.cell? ⟨kt,3,none⟩ = some (J U v.y) ∧ w'.cell? ⟨kt,4,none⟩ = some (J U v.z) ∧ w'.cell? ⟨kv,0,none⟩ = some (J U vx) ∧ w'.cell? ⟨kv,1,none⟩ = some (J U vy) ∧ w'.cell? ⟨kv,2,none⟩ = some (J U vz)
theorem WyAt.step {kv : Nat} {v : V3} {vx vy vz : Int} (h : WyAt kt kv v vx vy vz w) (k : Kept w w') : WyAt kt kv v vx vy vz w' := ⟨y00 k h.1,y00 k h.2.1,y00 k h.2.2.1,y00 k h.2.2.2.1,y00 k h.2.2.2.2.1,y00 k h.2.2.2.2.2⟩
def SpOf (w' : World) (g i : Nat) (q : Bd) : Prop := w'.cell? ⟨g,i * 17 + 9,none⟩ = some (J U q.vx) ∧ w'.cell? ⟨g,i * 17 + 10,none⟩ = some (J U q.vy) ∧ w'.cell? ⟨g,i * 17 + 11,none⟩ = some (J U q.vz)
theorem OwnB.sp {B : Nat → Bd} (h : OwnB w g n B) (hi : i < n) {q : Bd} (hq : q = B i) (o : Kept w w') : SpOf w' g i q := by
 subst hq;exact ⟨y00 o (h.cell hi (show 9 < 17 by omega)),y00 o (h.cell hi (show 10 < 17 by omega)),y00 o (h.cell hi (show 11 < 17 by omega))⟩
theorem y36 (a b : Option Addr) (n c m d : Nat) (B : Nat → Bd) (T : Nat → Tc) (bo ru ro : Int) (w : World) (hn : n ≤ 60) (hm : m ≤ 3600) (h : BodiesAt w a n B) (hs : SlArg a n c) (ht : TouchesAt w b m T) :
  Calls Tryz.prog 51 #[.slice a n c,.slice b m d,.agg #[I bo,I ru,I ro]] w (OwnC n (speedsT n B T m bo ru ro) w) := by
 have HB : Hid (TouchesAt w b m T ∧ n ≤ 60 ∧ m ≤ 3600) := ⟨ht,hn,hm⟩;have HS : Hid (BodiesAt w a n B ∧ SlArg a n c) := ⟨h,hs⟩;clear h hs ht hn hm;go_enter Tryz.func51,Tryz.ntmps51
 go_upto_region 1 with fail
 have H0 : Hid (BodiesAt (w.alloc (.cells #[I bo,I ru,I ro] 35)) a n B ∧ SlArg a n c ∧ RLawAt (w.alloc (.cells #[I bo,I ru,I ro] 35)) w.heap.size bo ru ro ∧ Only [] w (w.alloc (.cells #[I bo,I ru,I ro] 35)) ∧ w.heap.size < (w.alloc (.cells #[I bo,I ru,I ro] 35)).heap.size) :=
  ⟨HS.out.1.only ((Only.refl [] w).alloc _),HS.out.2,(MapKept.heap_alloc w _).1,(Only.refl [] w).alloc _,by simp⟩
 clear HS;revert H0;generalize w.heap.size = kb;generalize World.alloc w _ = w0;intro H0;go_cut [7] from 24 to 26 (fun s7 wc => ∃ a1 g c1 kl,s7 = .pointer (some (Y kl 0)) ∧ QW w a1 g n kb kl c1 bo ru ro B wc ∧ SlArg a1 n c1 ∧ n ≤ c1)
 case first =>
  have key : ∀ (a' : Option Addr) (g' c' : Nat) (w5 : World),RW w0 a' g' n B w5 → Hid (QW w a' g' n kb w5.heap.size c' bo ru ro B (w5.alloc (.cells #[.slice a' n c'] 36))) := fun a' g' c' w5 hr => by
   have o5 : Only [] w5 (w5.alloc (.cells #[.slice a' n c'] 36)) := (Only.refl [] w5).alloc _;have hk := H0.out.2.2.2.2;have hnew := hr.new;refine ⟨⟨hr.own.only o5 (by simp),(H0.out.2.2.2.1.trans hr.only).trans o5,Nat.le_trans H0.out.2.2.2.1.size hnew⟩,(H0.out.2.2.1.only hr.only (by simp)).only o5 (by simp),by simp,fun _ => by omega,fun h0 => ?_⟩;rcases hr.own with q | q
   ·exact absurd q h0
   ·have := q.2.lt; omega
  have HKEY : Hid (∀ (a' : Option Addr) (g' c' : Nat) (w5 : World),RW w0 a' g' n B w5 → Hid (QW w a' g' n kb w5.heap.size c' bo ru ro B (w5.alloc (.cells #[.slice a' n c'] 36)))) := key;clear key
  cases a with
  | none =>
   obtain ⟨rfl,rfl⟩ := H0.out.2.1 rfl;have hk0 := (HKEY.out (some (Y w0.heap.size 0)) w0.heap.size 0 (w0.alloc (.cells #[] 45)) ⟨Or.inl rfl,(Only.refl [] w0).alloc _,Nat.le_refl _⟩).out;have hs0 : (w0.alloc (.cells #[] 45)).heap.size = w0.heap.size + 1 := by simp
   rw [hs0] at hk0;have HK0 : Hid (QW w (some (Y w0.heap.size 0)) w0.heap.size 0 kb (w0.heap.size + 1) 0 bo ru ro B ((w0.alloc (.cells #[] 45)).alloc (.cells #[.slice (some (Y w0.heap.size 0)) 0 0] 36))) := hk0;clear hk0 hs0;go_wp2_with fail
   go_meet
   case rel => exact ⟨_,w0.heap.size,_,_,rfl,HK0.out,(fun e => by cases e),Nat.le_refl _⟩
  | some ad =>
   obtain ⟨i2,hi0,hz0,hz1,hz2⟩ := y0k bodyInfo;have hcell := y2c (H0.out.1.only ((Only.refl [] w0).alloc (.cells #[] 45)));have hn := HB.out.2.1;have hown : (w0.alloc (.cells #[] 45)).ownsRow w0.heap.size 45 17 (.slice (some (Y w0.heap.size 0)) 0 0) 0 [] := ⟨rfl,Or.inr ⟨w0.heap.size,0,#[],rfl,Nat.le_refl _,(MapKept.heap_alloc w0 _).1,by omega,by unfold maxLen; omega,rfl,rfl⟩⟩;go_wp2_with (first | (at_builtin; refine wpList_append_own_at _ rfl _ _ 36 rfl w0.heap.size 45 i2 (.agg #[I 0,I 0,I 0,I 0,I 0,I 0,I 0,I 0,I 0,I 0,I 0,I 0,I 0,I 0,I 0,I 0,I 0]) 17 136 Tryz.underlying36 hi0 hz0 hz1 hz2 rfl (by decide) (.slice (some (Y w0.heap.size 0)) 0 0) 0 [] rfl hown ad n c (rowsL B n) rfl (y18 B n) hcell (y1t B n) (by unfold maxLen; omega) (by omega) (by simp) ?_; intro v' w5 hown hgrow hnil hloc; simp only [Nat.zero_add,List.nil_append] at hown; have H5 : Hid (w5.ownsRow w0.heap.size 45 17 v' n (rowsL B n) ∧ Only [] w0 w5) := ⟨hown,((Only.refl [] w0).alloc _).grown hgrow (fun k hk => by simp [Value.ownBlock] at hk; exact Or.inr (by omega))⟩; clear hown hgrow hnil hloc hcell; obtain ⟨a',g',c',rfl,hS,hg⟩ := OwnS.of_row H5.out.1; have HF6 : Hid (SlArg a' n c' ∧ n ≤ c') := (Room.of_row H5.out.1).fit; have H6 : Hid (∃ g,RW w0 a' g n B w5) := (by by_cases h0 : n = 0; exact ⟨w0.heap.size,Or.inl h0,H5.out.2,Nat.le_refl _⟩; exact ⟨g',hS,H5.out.2,hg h0⟩); clear hS hg H5))
   go_meet
   case rel => exact ⟨a',H6.out.choose,c',_,rfl,(HKEY.out a' H6.out.choose c' w5 H6.out.choose_spec).out,HF6.out⟩
 case rest =>
  obtain ⟨a1,g,c1,kl,rfl,hq,hfit⟩ := hcut;have HF1 : Hid (SlArg a1 n c1 ∧ n ≤ c1) := hfit;clear hfit;have H1 : Hid (QW w a1 g n kb kl c1 bo ru ro B wc) := hq;clear hq H0;have l0 := H1.out.lw.off 0; have l1 := H1.out.lw.off 1; have l2 := H1.out.lw.off 2;have lv := H1.out.var;simp only [zR] at l0 l1 l2;go_wp2_with fail
  refine (y6z bo ru ro _).mono ?_;rintro e w2 ⟨rfl,k2⟩;have H2 : Hid (QW w a1 g n kb kl c1 bo ru ro B w2) := H1.out.keep (Only.of_kept k2);clear l0 l1 l2 lv k2 H1
  cases hrt : rightX bo ru ro with
  | false =>
   have HE : Hid (speedsT n B T m bo ru ro = B) := by show speedsT n B T m bo ru ro = B; unfold speedsT; rw [hrt]; rfl
   clear hrt;have lv := H2.out.var;go_wp2_with fail
   go_ret
   exact ⟨a1,g,c1,rfl,by rw [HE.out]; exact H2.out.rw.own,H2.out.rw.only,H2.out.rw.new,HF1.out⟩
  | true =>
   obtain ⟨R,hR,hR1,hb0,hb1⟩ : ∃ R : Nat,ro = R ∧ R ≤ 20 ∧ 0 ≤ bo ∧ bo ≤ 65536 := by
    unfold rightX shareX at hrt;simp only [Bool.and_eq_true,decide_eq_true_eq] at hrt;exact ⟨ro.toNat,by omega,by omega,by omega,by omega⟩
   have HE : Hid (speedsT n B T m bo ru ro = clampTo (roundsT n bo ru B T m R) n) := by
    show speedsT n B T m bo ru ro = _;unfold speedsT; rw [if_pos hrt,hR]; simp
   subst hR;have HRB : Hid (R ≤ 20 ∧ 0 ≤ bo ∧ bo ≤ 65536) := ⟨hR1,hb0,hb1⟩;clear hrt hR1 hb0 hb1;have l2 := H2.out.lw.off 2;simp only [zR] at l2;go_wp2_with fail
   clear l2;go_loopg [33] R (fun k idx wr => ∃ p : Nat,idx = I (p : Int) ∧ Hid (p ≤ R ∧ k = R - p) ∧ Hid (QW w a1 g n kb kl c1 bo ru R (roundsT n bo ru B T m p) wr))
   case atStart => exact ⟨0,rfl,⟨by omega,rfl⟩,H2⟩
   case round =>
    clear H2;obtain ⟨p,rfl,H4,HP⟩ := hrel;have hR20 := HRB.out.1;by_cases hp : p < R
    ·have hpl : (p : Int) < (R : Int) := by omega
     go_wp2_with fail
     go_loopg [37] m (fun k idx wr => ∃ j : Nat,idx = I (j : Int) ∧ Hid (j ≤ m ∧ k = m - j) ∧ Hid (QW w a1 g n kb kl c1 bo ru R (roundT n bo ru (roundsT n bo ru B T m p) T j) wr))
     case atStart => exact ⟨0,rfl,⟨by omega,rfl⟩,HP⟩
     case round =>
      clear HP;obtain ⟨j,rfl,H5,HP⟩ := hrel;have hm := HB.out.2.2;have hn := HB.out.2.1;by_cases hj : j < m
      ·have hjl : (j : Int) < (m : Int) := by omega
       obtain ⟨i1,i2,gt,ot,rfl,c0,c1',c2,c3,c4,c5⟩ := (HB.out.1.only HP.out.rw.only) j hj;clear i1 i2;obtain ⟨t,htj⟩ : ∃ t,t = T j := ⟨_,rfl⟩;rw [← htj] at c0 c1' c2 c3 c4 c5;have HT : Hid (t = T j) := htj;obtain ⟨C,hC⟩ : ∃ C,C = roundT n bo ru (roundsT n bo ru B T m p) T j := ⟨_,rfl⟩;rw [← hC] at HP;have HC : Hid (C = roundT n bo ru (roundsT n bo ru B T m p) T j) := hC;clear htj hC;go_upto_region 9 with fail
       clear c0 c1' c2 c3 c4 c5;have H3 : Hid (QW w a1 g n kb kl c1 bo ru R C (wr.alloc (.cells #[I t.a,I t.b,I t.way.x,I t.way.y,I t.way.z,I t.deep] 68)) ∧ TouchAt (wr.alloc (.cells #[I t.a,I t.b,I t.way.x,I t.way.y,I t.way.z,I t.deep] 68)) wr.heap.size t ∧ ∀ q,q < n → wr.heap.size ≠ g) := ⟨HP.out.keep ((Only.refl [] wr).alloc _),(MapKept.heap_alloc wr _).1,fun q hq => by have := (HP.out.rw.there hq).2.lt; omega⟩;clear HP;revert H3;generalize wr.heap.size = kt;generalize World.alloc wr _ = wA;intro H3;have HA : IdxAt kl kt a1 n c1 t wA := ⟨H3.out.1.var,H3.out.2.1.off 0,H3.out.2.1.off 1⟩;have HBD : Hid (BodiesAt wA a1 n C) := H3.out.1.rw.own.bodies;go_cut [10,11] from 41 to 148 (fun s10 s11 wc => ∃ ki kk,s10 = .pointer (some (Y ki 0)) ∧ s11 = .pointer (some (Y kk 0)) ∧ Kept wA wc ∧ wA.heap.size ≤ ki ∧ wA.heap.size ≤ kk ∧ ki ≠ kk ∧ wc.cell? (Y ki 0) = some (I (numX (findX C t.a n))) ∧ wc.cell? (Y kk 0) = some (I (numX (findX C t.b n))))
       case first =>
        as_aux_lemma =>
         refine wp_region_held_drew (S := fun w' => Kept wA w' ∧ (w'.cell? (Y kl 0) = some (.slice a1 n c1) ∧ Zc w' kt 0 t.a ∧ Zc w' kt 1 t.b)) (by kernel_rfl) ?_ (fun hH0 => ?_)
         ·exact ⟨kd,HA.step kd⟩
         refine tkU 0 (h:=tkU 1 (h:=tkU 2 (h:=tkV 4 ?_)));try simp only [zP]
         refine tkU 5 (h:=tkV 6 ?_);try simp only [zP]
         refine y22 [⟨3,44,I (numX (findX C t.a n))⟩,⟨7,48,I (numX (findX C t.b n))⟩] [(8,10),(9,11)] #[I 0] 3 2 (by kernel_rfl) (by decide) (by simp) ?_ ?_ (fun w' kw _ => ⟨(((Kept.refl wA).drew.trans kw).alloc _ _),HA.step (((Kept.refl wA).drew.trans kw).alloc _ _)⟩) (⟨(Kept.refl wA).drew,HA.step (Kept.refl wA).drew⟩) ?_
         ·intro done cc rest hd xs w' K kw hs hK
          rcases calls2 hd with ⟨rfl,rfl⟩ | ⟨rfl,rfl⟩
          ·simp only [putX,putCs,List.foldl_cons,List.foldl_nil,zT] at hK ⊢
           unfold wpOp;simp only [zR];first | (with_reducible refine iteYes ?hcx ?htx; case hcx => kernel_rfl) | rw [if_pos (by rfl)]
           left;go_simp
           (go_at_call 44; refine (y1v a1 n c1 C t.a _ hn (HBD.out.only (Only.of_kept ((Kept.refl wA).drew.trans kw)))).mono ?_; rintro e w2 ⟨rfl,k2⟩)
           try go_wp2_with fail
           exact hK _ k2 (⟨((Kept.refl wA).drew.trans (kw.trans k2)),HA.step ((Kept.refl wA).drew.trans (kw.trans k2))⟩)
          ·simp only [putX,putCs,List.foldl_cons,List.foldl_nil,zT] at hK ⊢
           unfold wpOp;simp only [zR];first | (with_reducible refine iteYes ?hcx ?htx; case hcx => kernel_rfl) | rw [if_pos (by rfl)]
           left;go_simp
           (go_at_call 44; refine (y1v a1 n c1 C t.b _ hn (HBD.out.only (Only.of_kept ((Kept.refl wA).drew.trans kw)))).mono ?_; rintro e w2 ⟨rfl,k2⟩)
           try go_wp2_with fail
           exact hK _ k2 (⟨((Kept.refl wA).drew.trans (kw.trans k2)),HA.step ((Kept.refl wA).drew.trans (kw.trans k2))⟩)
         ·intro p hp a' w' K hK
          simp only [zrd,List.not_mem_nil,or_false] at hp;rcases hp with rfl | rfl
          all_goals
           unfold wpOp;simp only [zR];first | (with_reducible refine iteYes ?hcx ?htx; case hcx => kernel_rfl) | rw [if_pos (by rfl)]
           left;go_simp
           exact hK
         ·intro f wz0 hf hinj kz hs
          have hP := hf (8,10) (by simp);have hQ := hf (9,11) (by simp);have n01 : f 10 ≠ f 11 := fun e => by have := hinj (8,10) (by simp) (9,11) (by simp) e; simp at this
          simp only at hP hQ;simp only [setN,putX,putCs,ptrV,List.map_cons,List.map_nil,List.cons_append,List.nil_append,List.foldl_cons,List.foldl_nil,zT];clear hf hinj;generalize f 10 = pp at hP n01 ⊢;generalize f 11 = qq at hQ n01 ⊢;have KZ : Hid (Kept wA wz0) := (Kept.refl wA).drew.trans kz;clear kz hs;have Hpp : Hid (wA.heap.size ≤ pp ∧ wz0.heap[pp]? = some (.cells #[I 0] 3)) := hP;clear hP;have Hqq : Hid (wA.heap.size ≤ qq ∧ wz0.heap[qq]? = some (.cells #[I 0] 3)) := hQ;clear hQ;have z0 := y08 Hpp.out.2 0; have y0 := y0h Hpp.out.2 0;simp only [zR] at z0;refine rdW 10 rfl fun K hK => ?_;simp only [zQ];go_simp;refine hK.out _ _ ?_ fun hS0 => ?_
          ·exact ⟨(KZ.out.setCell (p := Y pp 0) Hpp.out.1 _),HA.step (KZ.out.setCell (p := Y pp 0) Hpp.out.1 _)⟩
          clear hK K hS0 z0 y0;try simp only [zP]
          have KY : Hid (Kept wA (wz0.setCell (Y pp 0) (I (numX (findX C t.a n))))) := (KZ.out.setCell (p := Y pp 0) Hpp.out.1 _);have Gpp : Hid (wA.heap.size ≤ pp ∧ (wz0.setCell (Y pp 0) (I (numX (findX C t.a n)))).heap[pp]? = some (.cells #[I (numX (findX C t.a n))] 3)) := ⟨Hpp.out.1,(y0d Hpp.out.2 _ _)⟩;have Gqq : Hid (wA.heap.size ≤ qq ∧ (wz0.setCell (Y pp 0) (I (numX (findX C t.a n)))).heap[qq]? = some (.cells #[I 0] 3)) := ⟨Hqq.out.1,(y0r Hqq.out.2 (fun e => n01 e.symm) _ _)⟩;clear KZ Hpp Hqq;generalize (wz0.setCell (Y pp 0) (I (numX (findX C t.a n)))) = wz1 at KY Gpp Gqq ⊢;have KZ := KY;have Hpp := Gpp; have Hqq := Gqq;clear KY Gpp Gqq;have z0 := y08 Hqq.out.2 0; have y0 := y0h Hqq.out.2 0;simp only [zR] at z0;refine rdW 11 rfl fun K hK => ?_;simp only [zQ];go_simp;refine hK.out _ _ ?_ fun hS1 => ?_
          ·exact ⟨(KZ.out.setCell (p := Y qq 0) Hqq.out.1 _),HA.step (KZ.out.setCell (p := Y qq 0) Hqq.out.1 _)⟩
          clear hK K hS1 z0 y0;try simp only [zP]
          have KY : Hid (Kept wA (wz1.setCell (Y qq 0) (I (numX (findX C t.b n))))) := (KZ.out.setCell (p := Y qq 0) Hqq.out.1 _);have Gpp : Hid (wA.heap.size ≤ pp ∧ (wz1.setCell (Y qq 0) (I (numX (findX C t.b n)))).heap[pp]? = some (.cells #[I (numX (findX C t.a n))] 3)) := ⟨Hpp.out.1,(y0r Hpp.out.2 n01 _ _)⟩;have Gqq : Hid (wA.heap.size ≤ qq ∧ (wz1.setCell (Y qq 0) (I (numX (findX C t.b n)))).heap[qq]? = some (.cells #[I (numX (findX C t.b n))] 3)) := ⟨Hqq.out.1,(y0d Hqq.out.2 _ _)⟩;clear KZ Hpp Hqq;generalize (wz1.setCell (Y qq 0) (I (numX (findX C t.b n)))) = wz2 at KY Gpp Gqq ⊢;have KZ := KY;have Hpp := Gpp; have Hqq := Gqq;clear KY Gpp Gqq;refine wpAnyH_done (by kernel_rfl) ?_ _;go_wp2_with fail
          go_meet
          case rel => exact ⟨pp,qq,rfl,rfl,KZ.out,Hpp.out.1,Hqq.out.1,n01,y08 Hpp.out.2 0,y08 Hqq.out.2 0⟩
       case rest =>
        obtain ⟨ki,kk,rfl,rfl,kw,hki,hkk,hnik,ci,ck⟩ := hcut;have HR0 : Hid (QW w a1 g n kb kl c1 bo ru R C wc ∧ TouchAt wc kt t ∧ (∀ q,q < n → kt ≠ g ∧ ki ≠ g ∧ kk ≠ g)) := ⟨H3.out.1.keep (Only.of_kept kw),H3.out.2.1.only (Only.of_kept (D := []) kw) (by simp),fun q hq => ⟨H3.out.2.2 q hq,by have := (H3.out.1.rw.there hq).2.lt; omega,by have := (H3.out.1.rw.there hq).2.lt; omega⟩⟩;clear kw hki hkk hnik H3 HA HBD
        have HGO : Hid (∀ D wz,hitStep n bo ru C t = D → QW w a1 g n kb kl c1 bo ru R D wz → QW w a1 g n kb kl c1 bo ru R (roundT n bo ru (roundsT n bo ru B T m p) T (j + 1)) wz) := fun D wz e h => by
         show QW w a1 g n kb kl c1 bo ru R (hitStep n bo ru (roundT n bo ru (roundsT n bo ru B T m p) T j) (T j)) wz;rw [← HT.out,← HC.out,e]; exact h
        clear HT HC
        cases hfa : findX C t.a n with
        | none =>
         have HE : Hid (hitStep n bo ru C t = C) := by show hitStep n bo ru C t = C; simp [hitStep,hfa]
         rw [hfa] at ci;clear hfa;generalize numX (findX C t.b n) = nb at ck;simp only [numX] at ci;go_wp2_with fail
         go_roundg (m - (j + 1))
         case measure => have := H5.out.2; omega
         case rel => exact ⟨j + 1,by go_num,⟨by omega,rfl⟩,HGO.out _ _ HE.out HR0.out.1⟩
        | some i =>
         rw [hfa] at ci;simp only [numX] at ci
         cases hfb : findX C t.b n with
         | none =>
          have HE : Hid (hitStep n bo ru C t = C) := by show hitStep n bo ru C t = C; simp [hitStep,hfa,hfb]
          rw [hfb] at ck;simp only [numX] at ck;obtain ⟨hin,_⟩ := y0c hfa;clear hfa hfb;have ti : ¬ (i : Int) < 0 := by omega
          go_wp2_with fail
          go_roundg (m - (j + 1))
          case measure => have := H5.out.2; omega
          case rel => exact ⟨j + 1,by go_num,⟨by omega,rfl⟩,HGO.out _ _ HE.out HR0.out.1⟩
         | some k =>
          rw [hfb] at ck;simp only [numX] at ck;obtain ⟨hin,_⟩ := y0c hfa;obtain ⟨hkn,_⟩ := y0c hfb;have ti : ¬ (i : Int) < 0 := by omega
          have tk : ¬ (k : Int) < 0 := by omega
          by_cases hik : i = k
          ·subst hik
           have HE : Hid (hitStep n bo ru C t = C) := by show hitStep n bo ru C t = C; simp [hitStep,hfa,hfb]
           clear hfa hfb;go_wp2_with fail
           go_roundg (m - (j + 1))
           case measure => have := H5.out.2; omega
           case rel => exact ⟨j + 1,by go_num,⟨by omega,rfl⟩,HGO.out _ _ HE.out HR0.out.1⟩
          ·have tik : ((i : Int) == (k : Int)) = false := by simp; omega
           have HE : Hid (hitStep n bo ru C t = if add (lightX (C i).ms) (lightX (C k).ms) = 0 then C else hitX C i k (lightX (C i).ms) (lightX (C k).ms) (add (lightX (C i).ms) (lightX (C k).ms)) t.way bo ru) := by show hitStep n bo ru C t = _; simp [hitStep,hfa,hfb,hik]
           clear hfa hfb
           as_aux_lemma =>
            have hil : (i : Int) < (n : Int) := by omega
            have hkl : (k : Int) < (n : Int) := by omega
            have HIK : Hid (i < n ∧ k < n) := ⟨hin,hkn⟩;obtain ⟨ha1,_⟩ := HR0.out.1.rw.there hin;subst ha1;have HR1 : Hid (RB w g n kb kl c1 bo ru R kt t ki kk i k C wc) := ⟨HR0.out.1,by omega,HR0.out.2.1,ci,ck,(HR0.out.2.2 i hin).1,(HR0.out.2.2 i hin).2.1,(HR0.out.2.2 i hin).2.2⟩;go_upto_region 11 with fail
            clear ci ck HR0 ti tk tik hik;obtain ⟨qi,hqi⟩ : ∃ q,q = C i := ⟨_,rfl⟩;obtain ⟨qk,hqk⟩ : ∃ q,q = C k := ⟨_,rfl⟩;have HQQ : Hid (qi = C i ∧ qk = C k) := ⟨hqi,hqk⟩;rw [← hqi,← hqk] at HE;clear hqi hqk;obtain ⟨wA,hwA⟩ : ∃ wA,wA = wc := ⟨_,rfl⟩;subst hwA;have HA : LgAt kl ki kk g n c1 i k wA := ⟨HR1.out.q.var,HR1.out.vi,HR1.out.vk⟩;have HLI : Hid (∀ w',Kept wA w' → AllAt w' g i qi) := fun w' o => (HR1.out.own.all HIK.out.1 HQQ.out.1).kept o;have HLK : Hid (∀ w',Kept wA w' → AllAt w' g k qk) := fun w' o => (HR1.out.own.all HIK.out.2 HQQ.out.2).kept o;go_cut [12,13] from 60 to 148 (fun s12 s13 wc => ∃ kx ky,s12 = .pointer (some (Y kx 0)) ∧ s13 = .pointer (some (Y ky 0)) ∧ Kept wA wc ∧ wA.heap.size ≤ kx ∧ wA.heap.size ≤ ky ∧ wc.cell? (Y kx 0) = some (I (lightX qi.ms)) ∧ wc.cell? (Y ky 0) = some (I (lightX qk.ms)))
            case first =>
             as_aux_lemma =>
              refine wp_region_held_drew (S := fun w' => Kept wA w' ∧ (w'.cell? (Y kl 0) = some (.slice (some (Y g 0)) n c1) ∧ Zc w' ki 0 ((i : Int)) ∧ Zc w' kk 0 ((k : Int)))) (by kernel_rfl) ?_ (fun hH0 => ?_)
              ·exact ⟨kd,HA.step kd⟩
              refine tkU 0 (h:=tkU 1 (h:=tkV 2 ?_));try simp only [zP]
              refine tkW 3 rfl ?_ (by intro w'' hSw; (try dsimp only at hSw); obtain ⟨d0,d1,d2,d3,d4,d5,d6,d7,d8,d9,d10,d11,d12,d13,d14,d15,d16⟩ := HLI.out _ hSw.1; simp only [zQ]; (go_simp <;> with_reducible rfl));try simp only [zP]
              refine tkU 5 (h:=tkU 6 (h:=tkV 7 ?_));try simp only [zP]
              refine tkW 8 rfl ?_ (by intro w'' hSw; (try dsimp only at hSw); obtain ⟨d0,d1,d2,d3,d4,d5,d6,d7,d8,d9,d10,d11,d12,d13,d14,d15,d16⟩ := HLK.out _ hSw.1; simp only [zQ]; (go_simp <;> with_reducible rfl));try simp only [zP]
              refine y22 [⟨4,64,I (lightX qi.ms)⟩,⟨9,69,I (lightX qk.ms)⟩] [(10,12),(11,13)] #[I 0] 3 2 (by kernel_rfl) (by decide) (by simp) ?_ ?_ (fun w' kw _ => ⟨(((Kept.refl wA).drew.trans kw).alloc _ _),HA.step (((Kept.refl wA).drew.trans kw).alloc _ _)⟩) (⟨(Kept.refl wA).drew,HA.step (Kept.refl wA).drew⟩) ?_
              ·intro done cc rest hd xs w' K kw hs hK
               rcases calls2 hd with ⟨rfl,rfl⟩ | ⟨rfl,rfl⟩
               ·simp only [putX,putCs,List.foldl_cons,List.foldl_nil,zT] at hK ⊢
                unfold wpOp;simp only [zR];first | (with_reducible refine iteYes ?hcx ?htx; case hcx => kernel_rfl) | rw [if_pos (by rfl)]
                left;go_simp
                (go_at_call 79; refine (y2b qi _).mono ?_; rintro e w2 ⟨rfl,k2⟩)
                try go_wp2_with fail
                exact hK _ k2 (⟨((Kept.refl wA).drew.trans (kw.trans k2)),HA.step ((Kept.refl wA).drew.trans (kw.trans k2))⟩)
               ·simp only [putX,putCs,List.foldl_cons,List.foldl_nil,zT] at hK ⊢
                unfold wpOp;simp only [zR];first | (with_reducible refine iteYes ?hcx ?htx; case hcx => kernel_rfl) | rw [if_pos (by rfl)]
                left;go_simp
                (go_at_call 79; refine (y2b qk _).mono ?_; rintro e w2 ⟨rfl,k2⟩)
                try go_wp2_with fail
                exact hK _ k2 (⟨((Kept.refl wA).drew.trans (kw.trans k2)),HA.step ((Kept.refl wA).drew.trans (kw.trans k2))⟩)
              ·intro p hp a' w' K hK
               simp only [zrd,List.not_mem_nil,or_false] at hp;rcases hp with rfl | rfl
               all_goals
                unfold wpOp;simp only [zR];first | (with_reducible refine iteYes ?hcx ?htx; case hcx => kernel_rfl) | rw [if_pos (by rfl)]
                left;go_simp
                exact hK
              ·intro f wz0 hf hinj kz hs
               have hP := hf (10,12) (by simp);have hQ := hf (11,13) (by simp);have n01 : f 12 ≠ f 13 := fun e => by have := hinj (10,12) (by simp) (11,13) (by simp) e; simp at this
               simp only at hP hQ;simp only [setN,putX,putCs,ptrV,List.map_cons,List.map_nil,List.cons_append,List.nil_append,List.foldl_cons,List.foldl_nil,zT];clear hf hinj;generalize f 12 = pp at hP n01 ⊢;generalize f 13 = qq at hQ n01 ⊢;have KZ : Hid (Kept wA wz0) := (Kept.refl wA).drew.trans kz;clear kz hs;have Hpp : Hid (wA.heap.size ≤ pp ∧ wz0.heap[pp]? = some (.cells #[I 0] 3)) := hP;clear hP;have Hqq : Hid (wA.heap.size ≤ qq ∧ wz0.heap[qq]? = some (.cells #[I 0] 3)) := hQ;clear hQ;have z0 := y08 Hpp.out.2 0; have y0 := y0h Hpp.out.2 0;simp only [zR] at z0;refine rdW 12 rfl fun K hK => ?_;simp only [zQ];go_simp;refine hK.out _ _ ?_ fun hS0 => ?_
               ·exact ⟨(KZ.out.setCell (p := Y pp 0) Hpp.out.1 _),HA.step (KZ.out.setCell (p := Y pp 0) Hpp.out.1 _)⟩
               clear hK K hS0 z0 y0;try simp only [zP]
               have KY : Hid (Kept wA (wz0.setCell (Y pp 0) (I (lightX qi.ms)))) := (KZ.out.setCell (p := Y pp 0) Hpp.out.1 _);have Gpp : Hid (wA.heap.size ≤ pp ∧ (wz0.setCell (Y pp 0) (I (lightX qi.ms))).heap[pp]? = some (.cells #[I (lightX qi.ms)] 3)) := ⟨Hpp.out.1,(y0d Hpp.out.2 _ _)⟩;have Gqq : Hid (wA.heap.size ≤ qq ∧ (wz0.setCell (Y pp 0) (I (lightX qi.ms))).heap[qq]? = some (.cells #[I 0] 3)) := ⟨Hqq.out.1,(y0r Hqq.out.2 (fun e => n01 e.symm) _ _)⟩;clear KZ Hpp Hqq;generalize (wz0.setCell (Y pp 0) (I (lightX qi.ms))) = wz1 at KY Gpp Gqq ⊢;have KZ := KY;have Hpp := Gpp; have Hqq := Gqq;clear KY Gpp Gqq;have z0 := y08 Hqq.out.2 0; have y0 := y0h Hqq.out.2 0;simp only [zR] at z0;refine rdW 13 rfl fun K hK => ?_;simp only [zQ];go_simp;refine hK.out _ _ ?_ fun hS1 => ?_
               ·exact ⟨(KZ.out.setCell (p := Y qq 0) Hqq.out.1 _),HA.step (KZ.out.setCell (p := Y qq 0) Hqq.out.1 _)⟩
               clear hK K hS1 z0 y0;try simp only [zP]
               have KY : Hid (Kept wA (wz1.setCell (Y qq 0) (I (lightX qk.ms)))) := (KZ.out.setCell (p := Y qq 0) Hqq.out.1 _);have Gpp : Hid (wA.heap.size ≤ pp ∧ (wz1.setCell (Y qq 0) (I (lightX qk.ms))).heap[pp]? = some (.cells #[I (lightX qi.ms)] 3)) := ⟨Hpp.out.1,(y0r Hpp.out.2 n01 _ _)⟩;have Gqq : Hid (wA.heap.size ≤ qq ∧ (wz1.setCell (Y qq 0) (I (lightX qk.ms))).heap[qq]? = some (.cells #[I (lightX qk.ms)] 3)) := ⟨Hqq.out.1,(y0d Hqq.out.2 _ _)⟩;clear KZ Hpp Hqq;generalize (wz1.setCell (Y qq 0) (I (lightX qk.ms))) = wz2 at KY Gpp Gqq ⊢;have KZ := KY;have Hpp := Gpp; have Hqq := Gqq;clear KY Gpp Gqq;refine wpAnyH_done (by kernel_rfl) ?_ _;go_wp2_with fail
               go_meet
               case rel => exact ⟨pp,qq,rfl,rfl,KZ.out,Hpp.out.1,Hqq.out.1,y08 Hpp.out.2 0,y08 Hqq.out.2 0⟩
            case rest =>
             obtain ⟨kx,ky,rfl,rfl,k11,hkx,hky,cx,cy⟩ := hcut;have HRC : Hid (RC w g n kb kl c1 bo ru R kt t ki kk i k kx ky (lightX qi.ms) (lightX qk.ms) C wc) := ⟨HR1.out.keep (Only.of_kept k11),cx,cy,by have := HR1.out.own.lt; omega,by have := HR1.out.own.lt; omega⟩;clear k11 hkx hky HA HLI HLK HR1;generalize hx : lightX qi.ms = x at HE HRC cx;generalize hy : lightX qk.ms = y at HE HRC cy;clear hx hy;obtain ⟨w5,hw5⟩ : ∃ w5,w5 = wc := ⟨_,rfl⟩;subst hw5;go_wp2_with fail
             refine (y1x x y _).mono ?_;rintro e w6 ⟨rfl,hw6⟩;subst hw6;clear cx cy;generalize hal : add x y = al at HE;clear hal;go_upto_region 13 with fail
             have HLI : Hid (∀ w',Kept w6 w' → SpOf w' g i qi) := fun w' o => HRC.out.b.own.sp HIK.out.1 HQQ.out.1 o;have HLK : Hid (∀ w',Kept w6 w' → SpOf w' g k qk) := fun w' o => HRC.out.b.own.sp HIK.out.2 HQQ.out.2 o;have HK : Hid (∀ w',Kept w6 w' → Kept w6 w' ∧ (w'.cell? (Y kl 0) = some (.slice (some (Y g 0)) n c1) ∧ w'.cell? (Y ki 0) = some (I ((i : Int))) ∧ w'.cell? (Y kk 0) = some (I ((k : Int)))) ∧ w'.cell? (Y kt 2) = some (I t.way.x) ∧ w'.cell? (Y kt 3) = some (I t.way.y) ∧ w'.cell? (Y kt 4) = some (I t.way.z)) := fun w' o => ⟨o,⟨y00 o HRC.out.b.q.var,y00 o HRC.out.b.vi,y00 o HRC.out.b.vk⟩,y00 o (HRC.out.b.tc.off 2),y00 o (HRC.out.b.tc.off 3),y00 o (HRC.out.b.tc.off 4)⟩;refine wp_region_held_drew (S := (fun w' => Kept w6 w' ∧ (w'.cell? (Y kl 0) = some (.slice (some (Y g 0)) n c1) ∧ Zc w' ki 0 ((i : Int)) ∧ Zc w' kk 0 ((k : Int))) ∧ Zc w' kt 2 t.way.x ∧ Zc w' kt 3 t.way.y ∧ Zc w' kt 4 t.way.z)) (by kernel_rfl) ?_ (fun hJ1 => ?_)
             ·exact HK.out _ kd
             refine tkU 0 (h:=tkU 1 (h:=tkU 2 (h:=tkV 3 ?_)));try simp only [zP]
             refine tkW 4 rfl ?_ (by intro w'' hSw; (try dsimp only at hSw); obtain ⟨l0,l1,l2⟩ := HLK.out _ hSw.1; simp only [zQ]; (go_simp <;> with_reducible rfl));try simp only [zP]
             refine tkU 5 (h:=tkU 6 (h:=tkU 7 (h:=tkV 8 ?_)));try simp only [zP]
             refine tkW 9 rfl ?_ (by intro w'' hSw; (try dsimp only at hSw); obtain ⟨l0,l1,l2⟩ := HLI.out _ hSw.1; simp only [zQ]; (go_simp <;> with_reducible rfl));try simp only [zP]
             refine tkU 11 (h:=tkV 12 ?_);try simp only [zP]
             refine rdW 10 rfl fun K hK => ?_;simp only [zQ];go_simp
             (go_at_call 55; refine (y0u _ _ _ _ _ _ _).mono ?_; rintro e w7 ⟨rfl,k7⟩)
             try go_wp2_with fail
             refine hK.out _ _ ?_ fun hJ2 => ?_
             ·exact HK.out _ ((Kept.refl w6).drew.trans k7)
             clear hK K hJ1;try simp only [zP]
             refine rdW 13 rfl fun K hK => ?_;simp only [zQ];go_simp
             (go_at_call 80; refine (y49 _ _ _ _ _ _ _).mono ?_; rintro e w8 ⟨rfl,k8⟩)
             try go_wp2_with fail
             refine hK.out _ _ ?_ fun hJ3 => ?_
             ·exact HK.out _ (((Kept.refl w6).drew.trans k7).trans k8)
             clear hK K hJ2;try simp only [zP]
             refine tkV 14 ?_;try simp only [zP]
             refine wpAnyH_done (by kernel_rfl) ?_ _;have H8 : Hid (RC w g n kb kl c1 bo ru R kt t ki kk i k kx ky x y C w8) := HRC.out.keep (Only.of_kept (((Kept.refl w6).drew.trans k7).trans k8));clear hJ3 HK HLI HLK k7 k8 HRC;have HN : Hid (dotX (relX qi qk) t.way = dot (sub qk.vx qi.vx) (sub qk.vy qi.vy) (sub qk.vz qi.vz) t.way.x t.way.y t.way.z) := rfl;have hd := dot_in (sub qk.vx qi.vx) (sub qk.vy qi.vy) (sub qk.vz qi.vz) t.way.x t.way.y t.way.z;generalize dot (sub qk.vx qi.vx) (sub qk.vy qi.vy) (sub qk.vz qi.vz) t.way.x t.way.y t.way.z = nn at HN hd ⊢;by_cases hal : al = 0
             ·have HE1 : Hid (hitStep n bo ru C t = C) := by show hitStep n bo ru C t = C; rw [HE.out,if_pos hal]
              have tal : (al == 0) = true := by simpa using hal
              clear hal hd;go_wp2_with fail
              go_roundg (m - (j + 1))
              case measure => have := H5.out.2; omega
              case rel => exact ⟨j + 1,by go_num,⟨by omega,rfl⟩,HGO.out _ _ HE1.out H8.out.b.q⟩
             ·have HE1 : Hid (hitStep n bo ru C t = hitX C i k x y al t.way bo ru) := by show hitStep n bo ru C t = _; rw [HE.out,if_neg hal]
              have tal : (al == 0) = false := by simpa using hal
              clear hal HE;by_cases hnn : 0 ≤ nn
              ·have HE2 : Hid (hitStep n bo ru C t = C) := by
                show hitStep n bo ru C t = C;rw [HE1.out];unfold hitX;rw [← HQQ.out.1,← HQQ.out.2,HN.out,if_pos hnn]
               clear hd;go_wp2_with fail
               go_roundg (m - (j + 1))
               case measure => have := H5.out.2; omega
               case rel => exact ⟨j + 1,by go_num,⟨by omega,rfl⟩,HGO.out _ _ HE2.out H8.out.b.q⟩
              ·skip
               as_aux_lemma =>
                have hneg : IntKind.i64.wrap (-nn) = -nn := by rw [IntKind.wrap_i64]; omega
                have hbb : IntKind.i64.wrap (65536 + bo) = 65536 + bo := by have := HRB.out.2; rw [IntKind.wrap_i64]; omega
                have hmf := hmfT;have hbc := H8.out.b.q.lw.off 0;simp only [zR] at hbc;clear hd;go_wp2_with fail
                refine (y1c _ _ _).mono ?_;rintro e wm ⟨rfl,hwm⟩;subst hwm;go_wp2_with fail
                refine (y2d _ _ _).mono ?_;rintro e wd ⟨rfl,hwd⟩;subst hwd;have HJ : Hid (div (mul (-dotX (relX qi qk) t.way) (65536 + bo)) al = div (mul (-nn) (65536 + bo)) al ∧ ¬ 0 ≤ nn) := by rw [HN.out]; exact ⟨rfl,by omega⟩
                clear hneg hbb hmf hbc hnn;generalize div (mul (-nn) (65536 + bo)) al = jj at HJ ⊢;have m2 := H8.out.b.tc.off 2; have m3 := H8.out.b.tc.off 3; have m4 := H8.out.b.tc.off 4;simp only [zR] at m2 m3 m4;go_wp2_with fail
                refine (show Calls Tryz.prog 81 #[.agg #[I t.way.x,I t.way.y,I t.way.z],I jj,.pointer (some (Y kl 0)),.pointer (some (Y ki 0)),.pointer (some (Y kx 0)),.pointer (some (Y kk 0)),.pointer (some (Y ky 0))] _ _ from y3q kl ki kx kk ky g n c1 i k x y _ _ _ _ C _ H8.out.b.own H8.out.vars.1 HIK.out.1 HIK.out.2 hn H8.out.vars.2).mono ?_;rintro e w9 ⟨rfl,hO9,o9⟩;obtain ⟨B1,hB1⟩ : ∃ B1,B1 = giveX C i k x y t.way.x t.way.y t.way.z jj := ⟨_,rfl⟩;rw [← hB1] at hO9;have HB1 : Hid (B1 = giveX C i k x y t.way.x t.way.y t.way.z jj) := hB1;have H9 : Hid (RC w g n kb kl c1 bo ru R kt t ki kk i k kx ky x y B1 w9) := H8.out.turn hO9 o9;clear hB1 hO9 o9 m2 m3 m4 H8;obtain ⟨p1,hp⟩ : ∃ q,q = B1 i := ⟨_,rfl⟩;obtain ⟨q1,hq⟩ : ∃ q,q = B1 k := ⟨_,rfl⟩;have HPQ1 : Hid (p1 = B1 i ∧ q1 = B1 k) := ⟨hp,hq⟩;clear hp hq;go_upto_region 18 with fail
                have HLI : Hid (∀ w',Kept w9 w' → SpOf w' g i p1) := fun w' o => H9.out.b.own.sp HIK.out.1 HPQ1.out.1 o;have HLK : Hid (∀ w',Kept w9 w' → SpOf w' g k q1) := fun w' o => H9.out.b.own.sp HIK.out.2 HPQ1.out.2 o;have HA : LgAt kl ki kk g n c1 i k w9 := ⟨H9.out.b.q.var,H9.out.b.vi,H9.out.b.vk⟩;go_cut [18] from 107 to 148 (fun s18 wc => ∃ r,s18 = .pointer (some (Y r 0)) ∧ Kept w9 wc ∧ w9.heap.size ≤ r ∧ wc.cell? (Y r 0) = some (I (sub q1.vx p1.vx)) ∧ wc.cell? (Y r 1) = some (I (sub q1.vy p1.vy)) ∧ wc.cell? (Y r 2) = some (I (sub q1.vz p1.vz)))
                case first =>
                 as_aux_lemma =>
                  refine wp_region_held_drew (S := fun w' => Kept w9 w' ∧ (w'.cell? (Y kl 0) = some (.slice (some (Y g 0)) n c1) ∧ Zc w' ki 0 ((i : Int)) ∧ Zc w' kk 0 ((k : Int)))) (by kernel_rfl) ?_ (fun hH0 => ?_)
                  ·exact ⟨kd,HA.step kd⟩
                  refine tkU 0 (h:=tkU 1 (h:=tkU 2 (h:=tkV 3 ?_)));try simp only [zP]
                  refine tkW 4 rfl ?_ (by intro w'' hSw; (try dsimp only at hSw); obtain ⟨l0,l1,l2⟩ := HLK.out _ hSw.1; simp only [zQ]; (go_simp <;> with_reducible rfl));try simp only [zP]
                  refine tkU 5 (h:=tkU 6 (h:=tkU 7 (h:=tkV 8 ?_)));try simp only [zP]
                  refine tkW 9 rfl ?_ (by intro w'' hSw; (try dsimp only at hSw); obtain ⟨l0,l1,l2⟩ := HLI.out _ hSw.1; simp only [zQ]; (go_simp <;> with_reducible rfl));try simp only [zP]
                  refine y22 [⟨10,117,.agg #[I (sub q1.vx p1.vx),I (sub q1.vy p1.vy),I (sub q1.vz p1.vz)]⟩] [(11,18)] #[I 0,I 0,I 0] 23 1 (by kernel_rfl) (by decide) (by simp) ?_ ?_ (fun w' kw _ => ⟨(((Kept.refl w9).drew.trans kw).alloc _ _),HA.step (((Kept.refl w9).drew.trans kw).alloc _ _)⟩) (⟨(Kept.refl w9).drew,HA.step (Kept.refl w9).drew⟩) ?_
                  ·intro done cc rest hd xs w' K kw hs hK
                   obtain ⟨rfl,rfl⟩ := calls1 hd;simp only [putX,putCs,List.foldl_cons,List.foldl_nil,zT] at hK ⊢;unfold wpOp;simp only [zR];first | (with_reducible refine iteYes ?hcx ?htx; case hcx => kernel_rfl) | rw [if_pos (by rfl)]
                   left;go_simp
                   (go_at_call 55; refine (y0u _ _ _ _ _ _ _).mono ?_; rintro e w2 ⟨rfl,k2⟩)
                   try go_wp2_with fail
                   exact hK _ k2 (⟨((Kept.refl w9).drew.trans (kw.trans k2)),HA.step ((Kept.refl w9).drew.trans (kw.trans k2))⟩)
                  ·intro p hp a' w' K hK
                   simp only [zrd,List.not_mem_nil,or_false] at hp;subst hp
                   all_goals
                    unfold wpOp;simp only [zR];first | (with_reducible refine iteYes ?hcx ?htx; case hcx => kernel_rfl) | rw [if_pos (by rfl)]
                    left;go_simp
                    exact hK
                  ·intro f wz0 hf hinj kz hs
                   have hP := hf (11,18) (by simp);simp only at hP;simp only [setN,putX,putCs,ptrV,List.map_cons,List.map_nil,List.cons_append,List.nil_append,List.foldl_cons,List.foldl_nil,zT];clear hf hinj;generalize f 18 = pp at hP ⊢;have KZ : Hid (Kept w9 wz0) := (Kept.refl w9).drew.trans kz;clear kz hs;have Hpp : Hid (w9.heap.size ≤ pp ∧ wz0.heap[pp]? = some (.cells #[I 0,I 0,I 0] 23)) := hP;clear hP;have z0 := y08 Hpp.out.2 0; have y0 := y0h Hpp.out.2 0; have z1 := y08 Hpp.out.2 1; have y1 := y0h Hpp.out.2 1; have z2 := y08 Hpp.out.2 2; have y2 := y0h Hpp.out.2 2;simp only [zR] at z0 z1 z2;refine rdW 12 rfl fun K hK => ?_;simp only [zQ];go_simp;refine hK.out _ _ ?_ fun hS0 => ?_
                   ·exact ⟨(((KZ.out.setCell (p := Y pp 0) Hpp.out.1 _).setCell (p := Y pp 1) Hpp.out.1 _).setCell (p := Y pp 2) Hpp.out.1 _),HA.step (((KZ.out.setCell (p := Y pp 0) Hpp.out.1 _).setCell (p := Y pp 1) Hpp.out.1 _).setCell (p := Y pp 2) Hpp.out.1 _)⟩
                   clear hK K hS0 z0 y0 z1 y1 z2 y2;try simp only [zP]
                   have KY : Hid (Kept w9 (((wz0.setCell (Y pp 0) (I (sub q1.vx p1.vx))).setCell (Y pp 1) (I (sub q1.vy p1.vy))).setCell (Y pp 2) (I (sub q1.vz p1.vz)))) := (((KZ.out.setCell (p := Y pp 0) Hpp.out.1 _).setCell (p := Y pp 1) Hpp.out.1 _).setCell (p := Y pp 2) Hpp.out.1 _);have Gpp : Hid (w9.heap.size ≤ pp ∧ (((wz0.setCell (Y pp 0) (I (sub q1.vx p1.vx))).setCell (Y pp 1) (I (sub q1.vy p1.vy))).setCell (Y pp 2) (I (sub q1.vz p1.vz))).heap[pp]? = some (.cells #[I (sub q1.vx p1.vx),I (sub q1.vy p1.vy),I (sub q1.vz p1.vz)] 23)) := ⟨Hpp.out.1,(y0d (y0d (y0d Hpp.out.2 _ _) _ _) _ _)⟩;clear KZ Hpp;generalize (((wz0.setCell (Y pp 0) (I (sub q1.vx p1.vx))).setCell (Y pp 1) (I (sub q1.vy p1.vy))).setCell (Y pp 2) (I (sub q1.vz p1.vz))) = wz1 at KY Gpp ⊢;have KZ := KY;have Hpp := Gpp;clear KY Gpp;refine wpAnyH_done (by kernel_rfl) ?_ _;go_wp2_with fail
                   go_meet
                   case rel => exact ⟨pp,rfl,KZ.out,Hpp.out.1,y08 Hpp.out.2 0,y08 Hpp.out.2 1,y08 Hpp.out.2 2⟩
                case rest =>
                 clear HA HLI HLK;obtain ⟨kv,rfl,k10,hkv,s0,s1,s2⟩ := hcut;have H10 : Hid (RC w g n kb kl c1 bo ru R kt t ki kk i k kx ky x y B1 wc) := H9.out.keep (Only.of_kept k10);clear k10 hkv H9;have HV : Hid (relX p1 q1 = ⟨sub q1.vx p1.vx,sub q1.vy p1.vy,sub q1.vz p1.vz⟩) := rfl;generalize sub q1.vx p1.vx = vx at HV s0;generalize sub q1.vy p1.vy = vy at HV s1;generalize sub q1.vz p1.vz = vz at HV s2;obtain ⟨w10,hw10⟩ : ∃ w10,w10 = wc := ⟨_,rfl⟩;subst hw10;have HD : Hid (sideX (relX p1 q1) t.way = ⟨sub vx (mul t.way.x (dot vx vy vz t.way.x t.way.y t.way.z)),sub vy (mul t.way.y (dot vx vy vz t.way.x t.way.y t.way.z)),sub vz (mul t.way.z (dot vx vy vz t.way.x t.way.y t.way.z))⟩) := by rw [HV.out]; exact rfl
                 generalize hdd : dot vx vy vz t.way.x t.way.y t.way.z = dd at HD;have HDD : Hid (dot vx vy vz t.way.x t.way.y t.way.z = dd) := hdd;clear hdd;have HA : WyAt kt kv t.way vx vy vz w10 := ⟨H10.out.b.tc.off 2,H10.out.b.tc.off 3,H10.out.b.tc.off 4,s0,s1,s2⟩;clear s0 s1 s2;go_upto_region 19 with fail
                 go_cut [19] from 118 to 148 (fun s19 wc => ∃ r,s19 = .pointer (some (Y r 0)) ∧ Kept w10 wc ∧ w10.heap.size ≤ r ∧ wc.cell? (Y r 0) = some (I (sub vx (mul t.way.x dd))) ∧ wc.cell? (Y r 1) = some (I (sub vy (mul t.way.y dd))) ∧ wc.cell? (Y r 2) = some (I (sub vz (mul t.way.z dd))))
                 case first =>
                  as_aux_lemma =>
                   refine wp_region_held_drew (S := fun w' => Kept w10 w' ∧ (Zc w' kt 2 t.way.x ∧ Zc w' kt 3 t.way.y ∧ Zc w' kt 4 t.way.z ∧ Zc w' kv 0 vx ∧ Zc w' kv 1 vy ∧ Zc w' kv 2 vz)) (by kernel_rfl) ?_ (fun hH0 => ?_)
                   ·exact ⟨kd,HA.step kd⟩
                   refine tkU 0 (h:=tkU 1 (h:=tkU 2 (h:=tkV 3 ?_)));try simp only [zP]
                   refine tkU 4 (h:=tkV 5 ?_);try simp only [zP]
                   refine y22 [⟨6,124,I dd⟩,⟨7,125,.agg #[I (mul t.way.x dd),I (mul t.way.y dd),I (mul t.way.z dd)]⟩,⟨8,126,.agg #[I (sub vx (mul t.way.x dd)),I (sub vy (mul t.way.y dd)),I (sub vz (mul t.way.z dd))]⟩] [(9,19)] #[I 0,I 0,I 0] 23 1 (by kernel_rfl) (by decide) (by simp) ?_ ?_ (fun w' kw _ => ⟨(((Kept.refl w10).drew.trans kw).alloc _ _),HA.step (((Kept.refl w10).drew.trans kw).alloc _ _)⟩) (⟨(Kept.refl w10).drew,HA.step (Kept.refl w10).drew⟩) ?_
                   ·intro done cc rest hd xs w' K kw hs hK
                    rcases calls3 hd with ⟨rfl,rfl⟩ | ⟨rfl,rfl⟩ | ⟨rfl,rfl⟩
                    ·simp only [putX,putCs,List.foldl_cons,List.foldl_nil,zT] at hK ⊢
                     unfold wpOp;simp only [zR];first | (with_reducible refine iteYes ?hcx ?htx; case hcx => kernel_rfl) | rw [if_pos (by rfl)]
                     left;go_simp
                     (go_at_call 80; refine (y49 _ _ _ _ _ _ _).mono ?_; rintro e w2 ⟨rfl,k2⟩; simp only [HDD.out])
                     try go_wp2_with fail
                     exact hK _ k2 (⟨((Kept.refl w10).drew.trans (kw.trans k2)),HA.step ((Kept.refl w10).drew.trans (kw.trans k2))⟩)
                    ·simp only [putX,putCs,List.foldl_cons,List.foldl_nil,zT] at hK ⊢
                     unfold wpOp;simp only [zR];first | (with_reducible refine iteYes ?hcx ?htx; case hcx => kernel_rfl) | rw [if_pos (by rfl)]
                     left;go_simp
                     (go_at_call 82; refine (y1u _ _ _ _ _).mono ?_; rintro e w2 ⟨rfl,k2⟩)
                     try go_wp2_with fail
                     exact hK _ k2 (⟨((Kept.refl w10).drew.trans (kw.trans k2)),HA.step ((Kept.refl w10).drew.trans (kw.trans k2))⟩)
                    ·simp only [putX,putCs,List.foldl_cons,List.foldl_nil,zT] at hK ⊢
                     unfold wpOp;simp only [zR];first | (with_reducible refine iteYes ?hcx ?htx; case hcx => kernel_rfl) | rw [if_pos (by rfl)]
                     left;go_simp
                     (go_at_call 55; refine (y0u _ _ _ _ _ _ _).mono ?_; rintro e w2 ⟨rfl,k2⟩)
                     try go_wp2_with fail
                     exact hK _ k2 (⟨((Kept.refl w10).drew.trans (kw.trans k2)),HA.step ((Kept.refl w10).drew.trans (kw.trans k2))⟩)
                   ·intro p hp a' w' K hK
                    simp only [zrd,List.not_mem_nil,or_false] at hp;subst hp
                    all_goals
                     unfold wpOp;simp only [zR];first | (with_reducible refine iteYes ?hcx ?htx; case hcx => kernel_rfl) | rw [if_pos (by rfl)]
                     left;go_simp
                     exact hK
                   ·intro f wz0 hf hinj kz hs
                    have hP := hf (9,19) (by simp);simp only at hP;simp only [setN,putX,putCs,ptrV,List.map_cons,List.map_nil,List.cons_append,List.nil_append,List.foldl_cons,List.foldl_nil,zT];clear hf hinj;generalize f 19 = pp at hP ⊢;have KZ : Hid (Kept w10 wz0) := (Kept.refl w10).drew.trans kz;clear kz hs;have Hpp : Hid (w10.heap.size ≤ pp ∧ wz0.heap[pp]? = some (.cells #[I 0,I 0,I 0] 23)) := hP;clear hP;have z0 := y08 Hpp.out.2 0; have y0 := y0h Hpp.out.2 0; have z1 := y08 Hpp.out.2 1; have y1 := y0h Hpp.out.2 1; have z2 := y08 Hpp.out.2 2; have y2 := y0h Hpp.out.2 2;simp only [zR] at z0 z1 z2;refine rdW 10 rfl fun K hK => ?_;simp only [zQ];go_simp;refine hK.out _ _ ?_ fun hS0 => ?_
                    ·exact ⟨(((KZ.out.setCell (p := Y pp 0) Hpp.out.1 _).setCell (p := Y pp 1) Hpp.out.1 _).setCell (p := Y pp 2) Hpp.out.1 _),HA.step (((KZ.out.setCell (p := Y pp 0) Hpp.out.1 _).setCell (p := Y pp 1) Hpp.out.1 _).setCell (p := Y pp 2) Hpp.out.1 _)⟩
                    clear hK K hS0 z0 y0 z1 y1 z2 y2;try simp only [zP]
                    have KY : Hid (Kept w10 (((wz0.setCell (Y pp 0) (I (sub vx (mul t.way.x dd)))).setCell (Y pp 1) (I (sub vy (mul t.way.y dd)))).setCell (Y pp 2) (I (sub vz (mul t.way.z dd))))) := (((KZ.out.setCell (p := Y pp 0) Hpp.out.1 _).setCell (p := Y pp 1) Hpp.out.1 _).setCell (p := Y pp 2) Hpp.out.1 _);have Gpp : Hid (w10.heap.size ≤ pp ∧ (((wz0.setCell (Y pp 0) (I (sub vx (mul t.way.x dd)))).setCell (Y pp 1) (I (sub vy (mul t.way.y dd)))).setCell (Y pp 2) (I (sub vz (mul t.way.z dd)))).heap[pp]? = some (.cells #[I (sub vx (mul t.way.x dd)),I (sub vy (mul t.way.y dd)),I (sub vz (mul t.way.z dd))] 23)) := ⟨Hpp.out.1,(y0d (y0d (y0d Hpp.out.2 _ _) _ _) _ _)⟩;clear KZ Hpp;generalize (((wz0.setCell (Y pp 0) (I (sub vx (mul t.way.x dd)))).setCell (Y pp 1) (I (sub vy (mul t.way.y dd)))).setCell (Y pp 2) (I (sub vz (mul t.way.z dd)))) = wz1 at KY Gpp ⊢;have KZ := KY;have Hpp := Gpp;clear KY Gpp;refine wpAnyH_done (by kernel_rfl) ?_ _;go_wp2_with fail
                    go_meet
                    case rel => exact ⟨pp,rfl,KZ.out,Hpp.out.1,y08 Hpp.out.2 0,y08 Hpp.out.2 1,y08 Hpp.out.2 2⟩
                 case rest =>
                  clear HA;obtain ⟨r,rfl,k11,hr,s0,s1,s2⟩ := hcut;have H11 : Hid (RC w g n kb kl c1 bo ru R kt t ki kk i k kx ky x y B1 wc) := H10.out.keep (Only.of_kept k11);clear k11 hr H10;generalize sub vx (mul t.way.x dd) = sx at HD s0;generalize sub vy (mul t.way.y dd) = sy at HD s1;generalize sub vz (mul t.way.z dd) = sz at HD s2;obtain ⟨w11,hw11⟩ : ∃ w11,w11 = wc := ⟨_,rfl⟩;subst hw11;go_wp2_with fail
                  refine (y24 sx sy sz _).mono ?_;rintro e w12 ⟨rfl,k12⟩;have H12 : Hid (RC w g n kb kl c1 bo ru R kt t ki kk i k kx ky x y B1 w12) := H11.out.keep (Only.of_kept k12);have z0 := y00 k12 s0;have z1 := y00 k12 s1;have z2 := y00 k12 s2;clear k12 s0 s1 s2 H11;have HLG : Hid (longX ⟨sx,sy,sz⟩ = long sx sy sz ∧ unitX ⟨sx,sy,sz⟩ = ⟨unitPart (long sx sy sz) 0 sx,unitPart (long sx sy sz) 65536 sy,unitPart (long sx sy sz) 0 sz⟩) := ⟨rfl,rfl⟩;have HUN : Hid (∀ w',Calls Tryz.prog 86 #[.agg #[I sx,I sy,I sz]] w' fun e w'' => e = .returned (.agg #[I (unitPart (long sx sy sz) 0 sx),I (unitPart (long sx sy sz) 65536 sy),I (unitPart (long sx sy sz) 0 sz)]) ∧ Kept w' w'') := fun w' => y3x sx sy sz w';generalize long sx sy sz = lg at HLG HUN;by_cases hl : lg = 0
                  ·have HE2 : Hid (hitStep n bo ru C t = B1) := by
                    show hitStep n bo ru C t = B1;rw [HE1.out];unfold hitX;rw [← HQQ.out.1,← HQQ.out.2,HN.out,if_neg (by have := HJ.out.2; omega)];have hj := HJ.out.1;rw [HN.out] at hj;simp only [hj,← HB1.out,← HPQ1.out.1,← HPQ1.out.2,HD.out,HLG.out.1,hl,if_true]
                   have tl : (lg == 0) = true := by simpa using hl
                   clear hl;go_wp2_with fail
                   go_roundg (m - (j + 1))
                   case measure => have := H5.out.2; omega
                   case rel => exact ⟨j + 1,by go_num,⟨by omega,rfl⟩,HGO.out _ _ HE2.out H12.out.b.q⟩
                  ·have HE2 : Hid (hitStep n bo ru C t = giveX B1 i k x y (unitPart lg 0 sx) (unitPart lg 65536 sy) (unitPart lg 0 sz) (-(minX (mul jj ru) (div lg al)))) := by
                    show hitStep n bo ru C t = _;rw [HE1.out];unfold hitX;rw [← HQQ.out.1,← HQQ.out.2,HN.out,if_neg (by have := HJ.out.2; omega)];have hj := HJ.out.1;rw [HN.out] at hj;simp only [hj,← HB1.out,← HPQ1.out.1,← HPQ1.out.2,HD.out,HLG.out.1,HLG.out.2,hl,if_false]
                   have tl : (lg == 0) = false := by simpa using hl
                   clear hl;have hrc := H12.out.b.q.lw.off 1;simp only [zR] at hrc;go_wp2_with fail
                   refine (y1c _ _ _).mono ?_;rintro e wm ⟨rfl,hwm⟩;subst hwm;clear hrc;go_wp2_with fail
                   refine (y2d _ _ _).mono ?_;rintro e w13 ⟨rfl,hwd⟩;subst hwd;have H13 := H12;clear H12;by_cases hlt : div lg al < mul jj ru
                   ·have HE3 : Hid (hitStep n bo ru C t = giveX B1 i k x y (unitPart lg 0 sx) (unitPart lg 65536 sy) (unitPart lg 0 sz) (-(div lg al))) := by
                     show hitStep n bo ru C t = _;rw [HE2.out]; unfold minX; rw [if_pos hlt]
                    have hmn : IntKind.i64.wrap (-(div lg al)) = -(div lg al) := by have h1 := yiq jj ru; have h2 := yk1 lg al; rw [IntKind.wrap_i64]; omega
                    clear HE2
                    as_aux_lemma =>
                     go_wp2_with fail
                     refine (HUN.out _).mono ?_;rintro e w14 ⟨rfl,k14⟩;have HG : Hid (RC w g n kb kl c1 bo ru R kt t ki kk i k kx ky x y B1 w14) := H13.out.keep (Only.of_kept k14);clear k14 z0 z1 z2 H13;go_wp2_with fail
                     refine (show Calls Tryz.prog 81 #[.agg #[I (unitPart lg 0 sx),I (unitPart lg 65536 sy),I (unitPart lg 0 sz)],I (-(div lg al)),.pointer (some (Y kl 0)),.pointer (some (Y ki 0)),.pointer (some (Y kx 0)),.pointer (some (Y kk 0)),.pointer (some (Y ky 0))] w14 _ from y3q kl ki kx kk ky g n c1 i k x y _ _ _ _ B1 w14 HG.out.b.own HG.out.vars.1 HIK.out.1 HIK.out.2 hn HG.out.vars.2).mono ?_;rintro e w15 ⟨rfl,hO15,o15⟩;have HF : Hid (RC w g n kb kl c1 bo ru R kt t ki kk i k kx ky x y (giveX B1 i k x y (unitPart lg 0 sx) (unitPart lg 65536 sy) (unitPart lg 0 sz) (-(div lg al))) w15) := HG.out.turn hO15 o15;clear hO15 o15 HG;go_wp2_with fail
                     go_roundg (m - (j + 1))
                     case measure => have := H5.out.2; omega
                     case rel => exact ⟨j + 1,by go_num,⟨by omega,rfl⟩,HGO.out _ _ HE3.out HF.out.b.q⟩
                   ·have HE3 : Hid (hitStep n bo ru C t = giveX B1 i k x y (unitPart lg 0 sx) (unitPart lg 65536 sy) (unitPart lg 0 sz) (-(mul jj ru))) := by
                     show hitStep n bo ru C t = _;rw [HE2.out]; unfold minX; rw [if_neg hlt]
                    have hmn : IntKind.i64.wrap (-(mul jj ru)) = -(mul jj ru) := by have h1 := yiq jj ru; have h2 := yk1 lg al; rw [IntKind.wrap_i64]; omega
                    clear HE2
                    as_aux_lemma =>
                     go_wp2_with fail
                     refine (HUN.out _).mono ?_;rintro e w14 ⟨rfl,k14⟩;have HG : Hid (RC w g n kb kl c1 bo ru R kt t ki kk i k kx ky x y B1 w14) := H13.out.keep (Only.of_kept k14);clear k14 z0 z1 z2 H13;go_wp2_with fail
                     refine (show Calls Tryz.prog 81 #[.agg #[I (unitPart lg 0 sx),I (unitPart lg 65536 sy),I (unitPart lg 0 sz)],I (-(mul jj ru)),.pointer (some (Y kl 0)),.pointer (some (Y ki 0)),.pointer (some (Y kx 0)),.pointer (some (Y kk 0)),.pointer (some (Y ky 0))] w14 _ from y3q kl ki kx kk ky g n c1 i k x y _ _ _ _ B1 w14 HG.out.b.own HG.out.vars.1 HIK.out.1 HIK.out.2 hn HG.out.vars.2).mono ?_;rintro e w15 ⟨rfl,hO15,o15⟩;have HF : Hid (RC w g n kb kl c1 bo ru R kt t ki kk i k kx ky x y (giveX B1 i k x y (unitPart lg 0 sx) (unitPart lg 65536 sy) (unitPart lg 0 sz) (-(mul jj ru))) w15) := HG.out.turn hO15 o15;clear hO15 o15 HG;go_wp2_with fail
                     go_roundg (m - (j + 1))
                     case measure => have := H5.out.2; omega
                     case rel => exact ⟨j + 1,by go_num,⟨by omega,rfl⟩,HGO.out _ _ HE3.out HF.out.b.q⟩
      ·have hjl : ¬ (j : Int) < (m : Int) := by omega
       obtain rfl : j = m := by have := H5.out.1; omega
       go_wp2_with fail
       go_roundg (R - (p + 1))
       case measure => have := H4.out.2; omega
       case rel => exact ⟨p + 1,by go_num,⟨by omega,rfl⟩,HP⟩
    ·skip
     have hpl : ¬ (p : Int) < (R : Int) := by omega
     obtain rfl : p = R := by have := H4.out.1; omega
     generalize hC : roundsT n bo ru B T m p = C at HP HE;clear hC;have lv := HP.out.var;go_wp2_with fail
     clear lv;go_loopg [152] n (fun k idx wr => ∃ j : Nat,idx = I (j : Int) ∧ Hid (j ≤ n ∧ k = n - j) ∧ Hid (QW w a1 g n kb kl c1 bo ru p (clampTo C j) wr))
     case atStart => exact ⟨0,rfl,⟨by omega,rfl⟩,HP⟩
     case round =>
      clear HP;obtain ⟨j,rfl,H5,HP⟩ := hrel;have hn30 := HB.out.2.1;by_cases hj : j < n
      ·have hjl : (j : Int) < (n : Int) := by omega
       obtain ⟨ha1,hO⟩ := HP.out.rw.there hj;subst ha1;obtain ⟨q,hq⟩ : ∃ q,q = clampTo C j j := ⟨_,rfl⟩;have HQ : Hid (q = C j ∧ q = clampTo C j j) := ⟨by rw [hq,y9r],hq⟩;have HOO : Hid (OwnB wr g n (clampTo C j)) := hO;clear hO hq;go_upto_region 32 with fail
       as_aux_lemma =>
        have HLD : Hid (∀ w',Kept wr w' → SpOf w' g j q) := fun w' o => HOO.out.sp hj HQ.out.2 o;have HK : Hid (∀ w',Only [g] wr w' → Only [g] wr w' ∧ w'.cell? (Y kl 0) = some (.slice (some (Y g 0)) n c1)) := fun w' o => ⟨o,y03 o HP.out.var (by simp only [zrc]; exact HP.out.nl (by omega))⟩;refine wp_region_held_drew (S := (fun w' => Only [g] wr w' ∧ w'.cell? (Y kl 0) = some (.slice (some (Y g 0)) n c1))) (by kernel_rfl) ?_ (fun hJ1 => ?_)
        ·exact HK.out _ (Only.refl _ _).drew
        refine tkU 0 (h:=tkU 1 (h:=tkU 2 (h:=tkV 3 ?_)));try simp only [zP]
        refine tkU 4 (h:=tkV 5 ?_);try simp only [zP]
        refine rdW 6 rfl fun K hK => ?_;obtain ⟨l0,l1,l2⟩ := HLD.out _ (Kept.refl wr).drew;simp only [zQ];go_simp;clear l0 l1 l2;refine hK.out _ _ ?_ fun hH1 => ?_
        ·exact HK.out _ (Only.of_kept (Kept.refl wr).drew)
        clear hK K hJ1;try simp only [zP]
        refine rdW 7 rfl fun K hK => ?_;simp only [zQ];go_simp
        (go_at_call 33; refine (y0n _ _ _ _ _ (by decide)).mono ?_; rintro e w7 ⟨rfl,k7⟩)
        try go_wp2_with fail
        refine hK.out _ _ ?_ fun hH2 => ?_
        ·exact HK.out _ (Only.of_kept ((Kept.refl wr).drew.trans k7))
        clear hK K hH1;try simp only [zP]
        simp only [y3s];have K7 : Hid (Kept wr w7) := (Kept.refl wr).drew.trans k7;clear k7;obtain ⟨e6,e7,e8⟩ := HLD.out _ K7.out;have f6 := y01 K7.out (HOO.out.free (j * 17 + 9)); have f7 := y01 K7.out (HOO.out.free (j * 17 + 10)); have f8 := y01 K7.out (HOO.out.free (j * 17 + 11));refine tkU 8 (h:=tkV 9 ?_);try simp only [zP]
        refine rdW 10 rfl fun K hK => ?_;simp only [zQ];go_simp;refine hK.out _ _ ?_ fun hH3 => ?_
        ·exact HK.out _ ((((Only.of_kept K7.out).setCell (p := Y g (j * 17 + 9)) (Or.inl (by simp)) _).setCell (p := Y g (j * 17 + 10)) (Or.inl (by simp)) _).setCell (p := Y g (j * 17 + 11)) (Or.inl (by simp)) _)
        clear hK K;try simp only [zP]
        refine wpAnyH_done (by kernel_rfl) ?_ _
        have H8 : Hid (QW w (some (Y g 0)) g n kb kl c1 bo ru p (clampTo C (j + 1)) (((w7.setCell (Y g (j * 17 + 9)) (I (cl 6553600 q.vx))).setCell (Y g (j * 17 + 10)) (I (cl 6553600 q.vy))).setCell (Y g (j * 17 + 11)) (I (cl 6553600 q.vz)))) := by
         have h1 := (HOO.out.only (Only.of_kept (D := []) K7.out) (by simp)).putSp hj (cl 6553600 q.vx) (cl 6553600 q.vy) (cl 6553600 q.vz);rw [← HQ.out.2] at h1;rw [y74,← HQ.out.1];exact HP.out.turn (by omega) h1 ((((Only.of_kept K7.out).setCell (p := Y g (j * 17 + 9)) (Or.inl (by simp)) _).setCell (p := Y g (j * 17 + 10)) (Or.inl (by simp)) _).setCell (p := Y g (j * 17 + 11)) (Or.inl (by simp)) _)
        clear e6 e7 e8 f6 f7 f8 K7 hH3 hH2 HLD HK;go_wp2_with fail
        go_roundg (n - (j + 1))
        case measure => have := H5.out.2; omega
        case rel => exact ⟨j + 1,by go_num,⟨by omega,rfl⟩,H8⟩
      ·have hjl : ¬ (j : Int) < (n : Int) := by omega
       obtain rfl : j = n := by have := H5.out.1; omega
       have lv := HP.out.var;go_wp2_with fail
       go_ret
       exact ⟨a1,g,c1,rfl,by rw [HE.out]; exact HP.out.rw.own,HP.out.rw.only,HP.out.rw.new,HF1.out⟩
end Go.Proofs.YtbenlgandjjopaaGreatDoor
