/- . -/
import Derived.Test.YtbenlgandjjopaaGreatDoorN16
import Derived.Lib.SliceRun
open Go.Value renaming int → J
open Go.IntKind renaming i64 → U
open List renaming mem_singleton → zrc
namespace Go.Proofs.YtbenlgandjjopaaGreatDoor
set_option maxRecDepth 100000
set_option maxHeartbeats 8000000
open Go.ChangeShapes Go.WideShapes Go.ChangeAt Go.RowKit
set_option linter.unusedVariables false
set_option linter.unusedSimpArgs false
variable {q p r : Bd} {x y n v : Int}
def cntO (B : Nat → Bd) (o : Int) : Nat → Nat
 | 0 => 0
 | k + 1 => if (B k).ow = o then cntO B o k + 1 else cntO B o k
theorem yf8 (B : Nat → Bd) (o : Int) : ∀ k,cntO B o k ≤ k
 | 0 => Nat.le_refl _
 | k + 1 => by
  have := yf8 B o k;simp only [cntO]; split <;> omega
def satX (B : Nat → Bd) (n : Nat) (o qt : Int) : Bool := if o = 0 then false else decide (qt ≤ (cntO B o n : Int))
theorem ygb (x : Nat) (o : Int) (c : Wc) (a : Option Addr) (n cap t : Nat) (la st : Int) (B : Nat → Bd) (w : World) (hn : n ≤ 60) (hw : WorldAt w x c a n cap t la st) (hb : BodiesAt w a n B) :
  Calls Tryz.prog 39 #[.pointer (some (Y x 0)),I o] w fun e w' => e = .returned (.bool (satX B n o c.qt)) ∧ Only [] w w' := by
 have HB : Hid (WorldAt w x c a n cap t la st ∧ BodiesAt w a n B ∧ n ≤ 60) := ⟨hw,hb,hn⟩;clear hw hb hn;go_enter Tryz.func39,Tryz.ntmps39
 by_cases h0 : o = 0
 ·have HE : Hid (satX B n o c.qt = false) := by show satX B n o c.qt = false; unfold satX; rw [if_pos h0]
  have hb0 : (o == 0) = true := by simpa using h0
  clear h0;go_wp2_with fail
  go_ret
  exact ⟨by rw [HE.out]; rfl,Only.refl _ _⟩
 ·have HE : Hid (satX B n o c.qt = decide (c.qt ≤ (cntO B o n : Int))) := by show satX B n o c.qt = _; unfold satX; rw [if_neg h0]
  have hb0 : (o == 0) = false := by simpa using h0
  clear h0;have s7 := HB.out.1.off 7;simp only [zR] at s7;go_wp2_with fail
  clear s7 hb0;go_loopg [5,15] n (fun k cnt idx wr => ∃ i : Nat,cnt = I (cntO B o i : Int) ∧ idx = I (i : Int) ∧ Hid (i ≤ n ∧ k = n - i) ∧ Hid (Only [] w wr))
  case atStart => exact ⟨0,rfl,rfl,⟨by omega,rfl⟩,Only.refl _ _⟩
  case round =>
   obtain ⟨i,rfl,rfl,H1,HO⟩ := hrel;have hn := HB.out.2.2;have hcl := yf8 B o i;by_cases hi : i < n
   ·have hil : (i : Int) < (n : Int) := by omega
    obtain ⟨g,f,rfl,hc⟩ := (HB.out.2.1.only HO.out) i hi;obtain ⟨q,hq⟩ : ∃ q,B i = q := ⟨_,rfl⟩;have HC : Hid (cntO B o (i + 1) = if q.ow = o then cntO B o i + 1 else cntO B o i) := by rw [← hq]; exact rfl
    rw [hq] at hc;clear hq;go_upto_region 7 with (first | (refine wpList_load_mid rfl 45 (.tmp 17) rfl g (f + i * 17) rfl [I q.id,I q.ow,I q.kd,I q.sx,I q.sy,I q.sz,I q.ax,I q.ay,I q.az,I q.vx,I q.vy,I q.vz,I q.px,I q.py,I q.pz,I q.ms,I q.tm] _ (range17 hc) Tryz.underlying45 rfl bodySize ?_))
    clear hc;have H9 : Hid (Only [] w (wr.alloc (.cells (bdA q) 45)) ∧ BodyAt (wr.alloc (.cells (bdA q) 45)) wr.heap.size q) := ⟨HO.out.trans ((Only.refl [] wr).alloc _),(MapKept.heap_alloc wr _).1⟩;revert H9;generalize wr.heap.size = kb;generalize World.alloc wr _ = w9;intro H9;have e1 := H9.out.2.off 1;simp only [zR] at e1;by_cases hq : q.ow = o
    ·have hqb : (q.ow == o) = true := by simpa using hq
     have HC2 : Hid (cntO B o (i + 1) = cntO B o i + 1) := by show cntO B o (i + 1) = _; rw [HC.out,if_pos hq]
     clear hq;go_wp2_with fail
     go_roundg (n - (i + 1))
     case measure => have := H1.out.2; omega
     case rel => exact ⟨i + 1,by rw [HC2.out]; go_num,by go_num,⟨by omega,rfl⟩,H9.out.1⟩
    ·have hqb : (q.ow == o) = false := by simpa using hq
     have HC2 : Hid (cntO B o (i + 1) = cntO B o i) := by show cntO B o (i + 1) = _; rw [HC.out,if_neg hq]
     clear hq;go_wp2_with fail
     go_roundg (n - (i + 1))
     case measure => have := H1.out.2; omega
     case rel => exact ⟨i + 1,by rw [HC2.out],by go_num,⟨by omega,rfl⟩,H9.out.1⟩
   ·have hil : ¬ (i : Int) < (n : Int) := by omega
    obtain rfl : i = n := by have := H1.out.1; omega
    have s6 := (HB.out.1.only HO.out (by simp)).off 6;simp only [zR] at s6;go_wp2_with fail
    go_ret
    exact ⟨by rw [HE.out]; rfl,HO.out⟩
theorem ydp (B : Nat → Bd) (b : Bd) : ∀ n k,n ≤ k → rowsL (upd B k b) n = rowsL B n
 | 0,_,_ => rfl
 | n + 1,k,h => by
  show rowsL (upd B k b) n ++ bdL (upd B k b n) = _;rw [ydp B b n k (by omega),show upd B k b n = B n from by unfold upd; rw [if_neg (by omega)]]; rfl
theorem ya4 (B : Nat → Bd) (b : Bd) (n : Nat) : rowsL (upd B n b) (n + 1) = rowsL B n ++ bdL b := by
 show rowsL (upd B n b) n ++ bdL (upd B n b n) = _;rw [ydp B b n n (Nat.le_refl _),show upd B n b n = b from by unfold upd; rw [if_pos rfl]]
theorem yj2 (w : World) (l : List Value) (t : TypeId) : ∀ j u,l[j]? = some u → (w.alloc (.cells l.toArray t)).cell? ((Y w.heap.size 0).add j) = some u := by
 intro j u hj;have h := (MapKept.heap_alloc w (.cells l.toArray t)).1;have e : ((Y w.heap.size 0).add j) = (Y w.heap.size j) := by unfold Addr.add; split <;> simp_all
 rw [e];unfold World.cell?;simp only [h];simpa using hj
theorem yfb (a : Option Addr) (n c : Nat) (B : Nat → Bd) (w : World) (hn : n ≤ 1000) (h : BodiesAt w a n B) (hs : SlArg a n c) :
  Calls Tryz.prog 61 #[.slice a n c] w (OwnPost n B w) := by
 obtain ⟨i2,hi0,hz0,hz1,hz2⟩ := y0k bodyInfo
 cases a with
 | none =>
  obtain ⟨rfl,rfl⟩ := hs rfl;have heq : ∀ w,(binOp .eql 36 (.slice none 0 0) (.slice none 0 0)).run Tryz.prog w = .ok (.bool true) w := fun w => Lib.run_eql_slice_nil w 36 45 none 0 0 0 0 Tryz.underlying36;go_enter Tryz.func61,Tryz.ntmps61
  go_wp2_with fail
  go_ret
  exact ⟨none,w.heap.size,0,rfl,Or.inl rfl,Only.refl _ _,Nat.le_refl _,fun _ => ⟨rfl,rfl⟩⟩
 | some ad =>
  have hcell := y2c (h.only ((Only.refl [] w).alloc (.cells #[] 45)));have hown : (w.alloc (.cells #[] 45)).ownsRow w.heap.size 45 17 (.slice (some (Y w.heap.size 0)) 0 0) 0 [] := ⟨rfl,Or.inr ⟨w.heap.size,0,#[],rfl,Nat.le_refl _,(MapKept.heap_alloc w _).1,by omega,by unfold maxLen; omega,rfl,rfl⟩⟩;clear h hs;have heq : ∀ w,(binOp .eql 36 (.slice (some ad) n c) (.slice none 0 0)).run Tryz.prog w = .ok (.bool false) w := fun w => Lib.run_eql_slice_nil w 36 45 (some ad) n c 0 0 Tryz.underlying36;go_enter Tryz.func61,Tryz.ntmps61
  go_wp2_with (first | (at_builtin; refine wpList_append_own_at _ rfl _ _ 36 rfl w.heap.size 45 i2 (.agg #[I 0,I 0,I 0,I 0,I 0,I 0,I 0,I 0,I 0,I 0,I 0,I 0,I 0,I 0,I 0,I 0,I 0]) 17 136 Tryz.underlying36 hi0 hz0 hz1 hz2 rfl (by decide) (.slice (some (Y w.heap.size 0)) 0 0) 0 [] rfl hown ad n c (rowsL B n) rfl (y18 B n) hcell (y1t B n) (by unfold maxLen; omega) (by omega) (by simp) ?_; intro v' w5 hown hgrow hnil hloc; simp only [Nat.zero_add,List.nil_append] at hown; have H5 : Hid (w5.ownsRow w.heap.size 45 17 v' n (rowsL B n) ∧ Only [] w w5) := ⟨hown,((Only.refl [] w).alloc _).grown hgrow (fun k hk => by simp [Value.ownBlock] at hk; exact Or.inr (by omega))⟩; clear hown hgrow hnil hloc hcell))
  go_ret
  obtain ⟨a',g',c',rfl,hS,hg,hsl⟩ := OwnS.of_rowN H5.out.1;by_cases h0 : n = 0
  ·exact ⟨a',w.heap.size,c',rfl,Or.inl h0,H5.out.2,Nat.le_refl _,hsl⟩
  ·exact ⟨a',g',c',rfl,hS,H5.out.2,hg h0,hsl⟩
theorem yd9 (x : Nat) (c : Wc) (a : Option Addr) (n cap t : Nat) (la st : Int) (B : Nat → Bd) (w : World) (hn : n ≤ 60) (hw : WorldAt w x c a n cap t la st) (hb : BodiesAt w a n B) (hs : SlArg a n cap) :
  Calls Tryz.prog 28 #[.pointer (some (Y x 0))] w (OwnPost n B w) := by
 have HB : Hid (BodiesAt w a n B ∧ SlArg a n cap ∧ n ≤ 60) := ⟨hb,hs,hn⟩;have s7 := hw.off 7;simp only [zR] at s7;clear hw hb hs hn;go_enter Tryz.func28,Tryz.ntmps28
 go_wp2_with fail
 refine (yfb a n cap B w (by have := HB.out.2.2; omega) HB.out.1 HB.out.2.1).mono ?_;rintro e w2 ⟨a',g',c',rfl,h2⟩;have H2 : Hid (OwnS w2 a' g' n B ∧ Only [] w w2 ∧ w.heap.size ≤ g' ∧ SlArg a' n c') := h2;clear h2 s7;go_wp2_with fail
 go_ret
 exact ⟨a',g',c',rfl,H2.out⟩
def VarsAt (w : World) (kl ki kx kk ky g n cp i k : Nat) (x y : Int) : Prop := w.cell? ⟨kl,0,none⟩ = some (.slice (some ⟨g,0,none⟩) n cp) ∧ w.cell? ⟨ki,0,none⟩ = some (J U ((i : Int))) ∧ w.cell? ⟨kx,0,none⟩ = some (J U x) ∧ w.cell? ⟨kk,0,none⟩ = some (J U ((k : Int))) ∧ w.cell? ⟨ky,0,none⟩ = some (J U y)
theorem VarsAt.only {D : List Nat} {w w' : World} {kl ki kx kk ky g n cp i k : Nat} (h : VarsAt w kl ki kx kk ky g n cp i k x y) (o : Only D w w') (s : kl ∉ D ∧ ki ∉ D ∧ kx ∉ D ∧ kk ∉ D ∧ ky ∉ D) : VarsAt w' kl ki kx kk ky g n cp i k x y :=
 ⟨y03 o h.1 s.1,y03 o h.2.1 s.2.1,y03 o h.2.2.1 s.2.2.1,y03 o h.2.2.2.1 s.2.2.2.1,y03 o h.2.2.2.2 s.2.2.2.2⟩
theorem y3q (kl ki kx kk ky g n cp i k : Nat) (x y a b c j : Int) (B : Nat → Bd) (w : World) (h : OwnB w g n B) (hv : VarsAt w kl ki kx kk ky g n cp i k x y) (hi : i < n) (hk : k < n) (hn : n ≤ 60) (hne : kl ≠ g ∧ ki ≠ g ∧ kx ≠ g ∧ kk ≠ g ∧ ky ≠ g) :
  Calls Tryz.prog 81 #[.agg #[I a,I b,I c],I j,.pointer (some (Y kl 0)),.pointer (some (Y ki 0)),.pointer (some (Y kx 0)),.pointer (some (Y kk 0)),.pointer (some (Y ky 0))] w fun e w' => e = .returned (.tuple #[]) ∧ OwnB w' g n (giveX B i k x y a b c j) ∧ Only [g] w w' := by
 have HO : Hid (OwnB w g n B ∧ VarsAt w kl ki kx kk ky g n cp i k x y ∧ (kl ≠ g ∧ ki ≠ g ∧ kx ≠ g ∧ kk ≠ g ∧ ky ≠ g)) := ⟨h,hv,hne⟩;have HI : Hid (i < n ∧ k < n ∧ n ≤ 60) := ⟨hi,hk,hn⟩;clear h hv hne hi hk hn;go_enter Tryz.func81,Tryz.ntmps81
 go_upto_region 1 with fail
 have H0 : Hid (OwnB (w.alloc (.cells #[I a,I b,I c] 23)) g n B ∧ VarsAt (w.alloc (.cells #[I a,I b,I c] 23)) kl ki kx kk ky g n cp i k x y ∧ VecAt (w.alloc (.cells #[I a,I b,I c] 23)) w.heap.size a b c ∧ w.heap.size ≠ g ∧ Only [] w (w.alloc (.cells #[I a,I b,I c] 23))) := by
  have o : Only [] w (w.alloc (.cells #[I a,I b,I c] 23)) := (Only.refl [] w).alloc _;have hg := HO.out.1.lt;exact ⟨HO.out.1.only o (by simp),HO.out.2.1.only o (by simp),(MapKept.heap_alloc w _).1,by omega,o⟩
 revert H0;generalize w.heap.size = kw;generalize World.alloc w _ = w1;intro H0;have HOW : Hid (OwnB w1 g n B) := H0.out.1
 have HVA : Hid (w1.cell? (Y kl 0) = some (.slice (some (Y g 0)) n cp) ∧ w1.cell? (Y ki 0) = some (I ((i : Int))) ∧ w1.cell? (Y kx 0) = some (I x) ∧ w1.cell? (Y kk 0) = some (I ((k : Int))) ∧ w1.cell? (Y ky 0) = some (I y) ∧ VecAt w1 kw a b c ∧ kl ≠ g ∧ ki ≠ g ∧ kx ≠ g ∧ kk ≠ g ∧ ky ≠ g ∧ kw ≠ g) := by
  obtain ⟨v1,v2,v3,v4,v5⟩ := H0.out.2.1;obtain ⟨n1,n2,n3,n4,n5⟩ := HO.out.2.2;exact ⟨v1,v2,v3,v4,v5,H0.out.2.2.1,n1,n2,n3,n4,n5,H0.out.2.2.2.1⟩
 go_cut [8] from 9 to 23 (fun s8 wc => OwnB wc g n (upd B i (lessV (B i) a b c (mul j x))) ∧ Only [g] w1 wc)
 case first =>
  as_aux_lemma =>
   obtain ⟨q,hq⟩ : ∃ q,q = B i := ⟨_,rfl⟩;have HQ : Hid (q = B i) := hq;clear hq
   have HLD : Hid (∀ w',Kept w1 w' → w'.cell? (Y g (i * 17 + 9)) = some (I q.vx) ∧ w'.cell? (Y g (i * 17 + 10)) = some (I q.vy) ∧ w'.cell? (Y g (i * 17 + 11)) = some (I q.vz)) := fun w' o => by
    have c6 := HOW.out.cell HI.out.1 (show 9 < 17 by omega); have c7 := HOW.out.cell HI.out.1 (show 10 < 17 by omega); have c8 := HOW.out.cell HI.out.1 (show 11 < 17 by omega);rw [← HQ.out] at c6 c7 c8;exact ⟨y00 o c6,y00 o c7,y00 o c8⟩
   have HK : Hid (∀ w',Only [g] w1 w' → Only [g] w1 w' ∧ (w'.cell? (Y kw 0) = some (I a) ∧ w'.cell? (Y kw 1) = some (I b) ∧ w'.cell? (Y kw 2) = some (I c)) ∧ w'.cell? (Y kl 0) = some (.slice (some (Y g 0)) n cp) ∧ w'.cell? (Y ki 0) = some (I ((i : Int))) ∧ w'.cell? (Y kx 0) = some (I x)) := fun w' o => by
    obtain ⟨v1,v2,v3,v4,v5,v6,n1,n2,n3,n4,n5,n6⟩ := HVA.out;exact ⟨o,⟨y03 o (v6.off 0) (by simp only [zrc]; exact n6),y03 o (v6.off 1) (by simp only [zrc]; exact n6),y03 o (v6.off 2) (by simp only [zrc]; exact n6)⟩,y03 o v1 (by simp only [zrc]; exact n1),y03 o v2 (by simp only [zrc]; exact n2),y03 o v3 (by simp only [zrc]; exact n3)⟩
   have hil : (i : Int) < (n : Int) := by have := HI.out.1; omega
   have HKK : Hid (∀ w',Kept w1 w' → w'.cell? (Y g (i * 17 + 9)) = some (I q.vx) ∧ w'.cell? (Y g (i * 17 + 10)) = some (I q.vy) ∧ w'.cell? (Y g (i * 17 + 11)) = some (I q.vz) ∧ (w'.cell? (Y kw 0) = some (I a) ∧ w'.cell? (Y kw 1) = some (I b) ∧ w'.cell? (Y kw 2) = some (I c)) ∧ w'.cell? (Y kl 0) = some (.slice (some (Y g 0)) n cp) ∧ w'.cell? (Y ki 0) = some (I ((i : Int))) ∧ w'.cell? (Y kx 0) = some (I x)) := fun w' o => ⟨(HLD.out w' o).1,(HLD.out w' o).2.1,(HLD.out w' o).2.2,(HK.out w' (Only.of_kept o)).2⟩;refine y0v 15 (fun w' => w'.cell? (Y g (i * 17 + 9)) = some (I q.vx) ∧ w'.cell? (Y g (i * 17 + 10)) = some (I q.vy) ∧ w'.cell? (Y g (i * 17 + 11)) = some (I q.vz) ∧ (w'.cell? (Y kw 0) = some (I a) ∧ w'.cell? (Y kw 1) = some (I b) ∧ w'.cell? (Y kw 2) = some (I c)) ∧ w'.cell? (Y kl 0) = some (.slice (some (Y g 0)) n cp) ∧ w'.cell? (Y ki 0) = some (I ((i : Int))) ∧ w'.cell? (Y kx 0) = some (I x)) (by kernel_rfl) ?_ (fun hJ1 => ?_)
   ·exact HKK.out _ (Kept.refl w1).drew
   refine tkL 0 rfl ?_; refine tkL 1 rfl ?_; refine tkL 2 rfl ?_; refine tkL 3 rfl ?_;try simp only [zP]
   refine tkL 4 rfl ?_; refine tkL 5 rfl ?_; refine tkL 6 rfl ?_; refine tkL 7 rfl ?_;try simp only [zP]
   refine tkL 8 rfl ?_; refine tkL 9 rfl ?_;try simp only [zP]
   refine y05 (rs := [10]) (by kernel_rfl) (by simp) ?_;refine AllReadyF.cons rfl (fun K hK => ?_) AllReadyF.nil;first | (with_reducible refine iteYes ?hcx ?htx; case hcx => kernel_rfl) | rw [if_pos (by rfl)]
   simp only [zQ];go_simp
   (go_at_call 83; refine (y1c _ _ _).mono ?_; rintro e wq1 ⟨rfl,hq⟩; subst hq)
   try go_wp2_with fail
   refine hK.out _ _ ?_ fun hJ2 => ?_
   ·exact HKK.out _ (Kept.refl w1).drew
   clear hK K hJ1;try simp only [zP]
   refine y05 (rs := [11]) (by kernel_rfl) (by simp) ?_;refine AllReadyF.cons rfl (fun K hK => ?_) AllReadyF.nil;first | (with_reducible refine iteYes ?hcx ?htx; case hcx => kernel_rfl) | rw [if_pos (by rfl)]
   simp only [zQ];go_simp
   (go_at_call 82; refine (y1u _ _ _ _ _).mono ?_; rintro e wq2 ⟨rfl,kq2⟩)
   try go_wp2_with fail
   refine hK.out _ _ ?_ fun hJ3 => ?_
   ·exact HKK.out _ ((Kept.refl w1).drew.trans kq2)
   clear hK K hJ2;try simp only [zP]
   refine y05 (rs := [12]) (by kernel_rfl) (by simp) ?_;refine AllReadyF.cons rfl (fun K hK => ?_) AllReadyF.nil;first | (with_reducible refine iteYes ?hcx ?htx; case hcx => kernel_rfl) | rw [if_pos (by rfl)]
   simp only [zQ];go_simp
   (go_at_call 55; refine (y0u _ _ _ _ _ _ _).mono ?_; rintro e wr3 ⟨rfl,kr3⟩)
   try go_wp2_with fail
   refine hK.out _ _ ?_ fun hJ4 => ?_
   ·exact HKK.out _ (((Kept.refl w1).drew.trans kq2).trans kr3)
   clear hK K hJ3;try simp only [zP]
   have K7 : Hid (Kept w1 wr3) := ((Kept.refl w1).drew.trans kq2).trans kr3;clear kq2 kr3;refine tkL 13 rfl ?_; refine tkL 14 rfl ?_;try simp only [zP]
   obtain ⟨e6,e7,e8⟩ := HLD.out _ K7.out;have f6 := y01 K7.out (HOW.out.free (i * 17 + 9)); have f7 := y01 K7.out (HOW.out.free (i * 17 + 10)); have f8 := y01 K7.out (HOW.out.free (i * 17 + 11));refine y05 (rs := [15]) (by kernel_rfl) (by simp) ?_;refine AllReadyF.fin rfl (by decide) (fun K hK => ?_) AllReadyF.nil;first | (with_reducible refine iteYes ?hcx ?htx; case hcx => kernel_rfl) | rw [if_pos (by rfl)]
   simp only [zQ];go_simp;skip;refine hK.out _ _ ?_;clear hK K;try simp only [zP]
   refine y1f (by kernel_rfl) ?_ _
   have HFN : Hid (OwnB (((wr3.setCell (Y g (i * 17 + 9)) (I (sub q.vx (mul a (mul j x))))).setCell (Y g (i * 17 + 10)) (I (sub q.vy (mul b (mul j x))))).setCell (Y g (i * 17 + 11)) (I (sub q.vz (mul c (mul j x))))) g n (upd B i (lessV (B i) a b c (mul j x))) ∧ Only [g] w1 (((wr3.setCell (Y g (i * 17 + 9)) (I (sub q.vx (mul a (mul j x))))).setCell (Y g (i * 17 + 10)) (I (sub q.vy (mul b (mul j x))))).setCell (Y g (i * 17 + 11)) (I (sub q.vz (mul c (mul j x)))))) := by
    refine ⟨?_,(((Only.of_kept K7.out).setCell (p := Y g (i * 17 + 9)) (Or.inl (by simp)) _).setCell (p := Y g (i * 17 + 10)) (Or.inl (by simp)) _).setCell (p := Y g (i * 17 + 11)) (Or.inl (by simp)) _⟩;have h1 := (HOW.out.only (Only.of_kept (D := []) K7.out) (by simp)).putSp HI.out.1 (sub q.vx (mul a (mul j x))) (sub q.vy (mul b (mul j x))) (sub q.vz (mul c (mul j x)));rw [HQ.out] at h1 ⊢;exact h1
   clear e6 e7 e8 f6 f7 f8 K7 hJ4;go_wp2_with fail
   go_meet
   case rel => exact HFN.out
 case rest =>
  obtain ⟨hO1,o1⟩ := hcut;obtain ⟨w2,hw2⟩ : ∃ w2,w2 = wc := ⟨wc,rfl⟩;subst hw2;obtain ⟨B1,hB1⟩ : ∃ B1,B1 = upd B i (lessV (B i) a b c (mul j x)) := ⟨_,rfl⟩;rw [← hB1] at hO1;have HB1 : Hid (B1 = upd B i (lessV (B i) a b c (mul j x)) ∧ Only [g] w1 w2) := ⟨hB1,o1⟩;have HOW2 : Hid (OwnB w2 g n B1) := hO1
  have HVA2 : Hid (w2.cell? (Y kl 0) = some (.slice (some (Y g 0)) n cp) ∧ w2.cell? (Y ki 0) = some (I ((i : Int))) ∧ w2.cell? (Y kx 0) = some (I x) ∧ w2.cell? (Y kk 0) = some (I ((k : Int))) ∧ w2.cell? (Y ky 0) = some (I y) ∧ VecAt w2 kw a b c ∧ kl ≠ g ∧ ki ≠ g ∧ kx ≠ g ∧ kk ≠ g ∧ ky ≠ g ∧ kw ≠ g) := by
   obtain ⟨v1,v2,v3,v4,v5,v6,n1,n2,n3,n4,n5,n6⟩ := HVA.out;exact ⟨y03 o1 v1 (by simp only [zrc]; exact n1),y03 o1 v2 (by simp only [zrc]; exact n2),y03 o1 v3 (by simp only [zrc]; exact n3),y03 o1 v4 (by simp only [zrc]; exact n4),y03 o1 v5 (by simp only [zrc]; exact n5),v6.only o1 (by simp only [zrc]; exact n6),n1,n2,n3,n4,n5,n6⟩
  clear hB1 hO1 o1 HOW HVA;have HOW := HOW2;have HVA := HVA2;clear HOW2 HVA2;go_upto_region 2 with fail
  as_aux_lemma =>
   obtain ⟨q,hq⟩ : ∃ q,q = B1 k := ⟨_,rfl⟩;have HQ : Hid (q = B1 k) := hq;clear hq
   have HLD : Hid (∀ w',Kept w2 w' → w'.cell? (Y g (k * 17 + 9)) = some (I q.vx) ∧ w'.cell? (Y g (k * 17 + 10)) = some (I q.vy) ∧ w'.cell? (Y g (k * 17 + 11)) = some (I q.vz)) := fun w' o => by
    have c6 := HOW.out.cell HI.out.2.1 (show 9 < 17 by omega); have c7 := HOW.out.cell HI.out.2.1 (show 10 < 17 by omega); have c8 := HOW.out.cell HI.out.2.1 (show 11 < 17 by omega);rw [← HQ.out] at c6 c7 c8;exact ⟨y00 o c6,y00 o c7,y00 o c8⟩
   have HK : Hid (∀ w',Only [g] w2 w' → Only [g] w2 w' ∧ (w'.cell? (Y kw 0) = some (I a) ∧ w'.cell? (Y kw 1) = some (I b) ∧ w'.cell? (Y kw 2) = some (I c)) ∧ w'.cell? (Y kl 0) = some (.slice (some (Y g 0)) n cp) ∧ w'.cell? (Y kk 0) = some (I ((k : Int))) ∧ w'.cell? (Y ky 0) = some (I y)) := fun w' o => by
    obtain ⟨v1,v2,v3,v4,v5,v6,n1,n2,n3,n4,n5,n6⟩ := HVA.out;exact ⟨o,⟨y03 o (v6.off 0) (by simp only [zrc]; exact n6),y03 o (v6.off 1) (by simp only [zrc]; exact n6),y03 o (v6.off 2) (by simp only [zrc]; exact n6)⟩,y03 o v1 (by simp only [zrc]; exact n1),y03 o v4 (by simp only [zrc]; exact n4),y03 o v5 (by simp only [zrc]; exact n5)⟩
   have hil : (k : Int) < (n : Int) := by have := HI.out.2.1; omega
   have HKK : Hid (∀ w',Kept w2 w' → w'.cell? (Y g (k * 17 + 9)) = some (I q.vx) ∧ w'.cell? (Y g (k * 17 + 10)) = some (I q.vy) ∧ w'.cell? (Y g (k * 17 + 11)) = some (I q.vz) ∧ (w'.cell? (Y kw 0) = some (I a) ∧ w'.cell? (Y kw 1) = some (I b) ∧ w'.cell? (Y kw 2) = some (I c)) ∧ w'.cell? (Y kl 0) = some (.slice (some (Y g 0)) n cp) ∧ w'.cell? (Y kk 0) = some (I ((k : Int))) ∧ w'.cell? (Y ky 0) = some (I y)) := fun w' o => ⟨(HLD.out w' o).1,(HLD.out w' o).2.1,(HLD.out w' o).2.2,(HK.out w' (Only.of_kept o)).2⟩;refine y0v 15 (fun w' => w'.cell? (Y g (k * 17 + 9)) = some (I q.vx) ∧ w'.cell? (Y g (k * 17 + 10)) = some (I q.vy) ∧ w'.cell? (Y g (k * 17 + 11)) = some (I q.vz) ∧ (w'.cell? (Y kw 0) = some (I a) ∧ w'.cell? (Y kw 1) = some (I b) ∧ w'.cell? (Y kw 2) = some (I c)) ∧ w'.cell? (Y kl 0) = some (.slice (some (Y g 0)) n cp) ∧ w'.cell? (Y kk 0) = some (I ((k : Int))) ∧ w'.cell? (Y ky 0) = some (I y)) (by kernel_rfl) ?_ (fun hJ1 => ?_)
   ·exact HKK.out _ (Kept.refl w2).drew
   refine tkL 0 rfl ?_; refine tkL 1 rfl ?_; refine tkL 2 rfl ?_; refine tkL 3 rfl ?_;try simp only [zP]
   refine tkL 4 rfl ?_; refine tkL 5 rfl ?_; refine tkL 6 rfl ?_; refine tkL 7 rfl ?_;try simp only [zP]
   refine tkL 8 rfl ?_; refine tkL 9 rfl ?_;try simp only [zP]
   refine y05 (rs := [10]) (by kernel_rfl) (by simp) ?_;refine AllReadyF.cons rfl (fun K hK => ?_) AllReadyF.nil;first | (with_reducible refine iteYes ?hcx ?htx; case hcx => kernel_rfl) | rw [if_pos (by rfl)]
   simp only [zQ];go_simp
   (go_at_call 83; refine (y1c _ _ _).mono ?_; rintro e wq1 ⟨rfl,hq⟩; subst hq)
   try go_wp2_with fail
   refine hK.out _ _ ?_ fun hJ2 => ?_
   ·exact HKK.out _ (Kept.refl w2).drew
   clear hK K hJ1;try simp only [zP]
   refine y05 (rs := [11]) (by kernel_rfl) (by simp) ?_;refine AllReadyF.cons rfl (fun K hK => ?_) AllReadyF.nil;first | (with_reducible refine iteYes ?hcx ?htx; case hcx => kernel_rfl) | rw [if_pos (by rfl)]
   simp only [zQ];go_simp
   (go_at_call 82; refine (y1u _ _ _ _ _).mono ?_; rintro e wq2 ⟨rfl,kq2⟩)
   try go_wp2_with fail
   refine hK.out _ _ ?_ fun hJ3 => ?_
   ·exact HKK.out _ ((Kept.refl w2).drew.trans kq2)
   clear hK K hJ2;try simp only [zP]
   refine y05 (rs := [12]) (by kernel_rfl) (by simp) ?_;refine AllReadyF.cons rfl (fun K hK => ?_) AllReadyF.nil;first | (with_reducible refine iteYes ?hcx ?htx; case hcx => kernel_rfl) | rw [if_pos (by rfl)]
   simp only [zQ];go_simp
   (go_at_call 50; refine (y1d _ _ _ _ _ _ _).mono ?_; rintro e wr3 ⟨rfl,kr3⟩)
   try go_wp2_with fail
   refine hK.out _ _ ?_ fun hJ4 => ?_
   ·exact HKK.out _ (((Kept.refl w2).drew.trans kq2).trans kr3)
   clear hK K hJ3;try simp only [zP]
   have K7 : Hid (Kept w2 wr3) := ((Kept.refl w2).drew.trans kq2).trans kr3;clear kq2 kr3;refine tkL 13 rfl ?_; refine tkL 14 rfl ?_;try simp only [zP]
   obtain ⟨e6,e7,e8⟩ := HLD.out _ K7.out;have f6 := y01 K7.out (HOW.out.free (k * 17 + 9)); have f7 := y01 K7.out (HOW.out.free (k * 17 + 10)); have f8 := y01 K7.out (HOW.out.free (k * 17 + 11));refine y05 (rs := [15]) (by kernel_rfl) (by simp) ?_;refine AllReadyF.fin rfl (by decide) (fun K hK => ?_) AllReadyF.nil;first | (with_reducible refine iteYes ?hcx ?htx; case hcx => kernel_rfl) | rw [if_pos (by rfl)]
   simp only [zQ];go_simp;skip;refine hK.out _ _ ?_;clear hK K;try simp only [zP]
   refine y1f (by kernel_rfl) ?_ _
   have HFN : Hid (OwnB (((wr3.setCell (Y g (k * 17 + 9)) (I (add q.vx (mul a (mul j y))))).setCell (Y g (k * 17 + 10)) (I (add q.vy (mul b (mul j y))))).setCell (Y g (k * 17 + 11)) (I (add q.vz (mul c (mul j y))))) g n (upd B1 k (moreV (B1 k) a b c (mul j y))) ∧ Only [g] w2 (((wr3.setCell (Y g (k * 17 + 9)) (I (add q.vx (mul a (mul j y))))).setCell (Y g (k * 17 + 10)) (I (add q.vy (mul b (mul j y))))).setCell (Y g (k * 17 + 11)) (I (add q.vz (mul c (mul j y)))))) := by
    refine ⟨?_,(((Only.of_kept K7.out).setCell (p := Y g (k * 17 + 9)) (Or.inl (by simp)) _).setCell (p := Y g (k * 17 + 10)) (Or.inl (by simp)) _).setCell (p := Y g (k * 17 + 11)) (Or.inl (by simp)) _⟩;have h1 := (HOW.out.only (Only.of_kept (D := []) K7.out) (by simp)).putSp HI.out.2.1 (add q.vx (mul a (mul j y))) (add q.vy (mul b (mul j y))) (add q.vz (mul c (mul j y)));rw [HQ.out] at h1 ⊢;exact h1
   clear e6 e7 e8 f6 f7 f8 K7 hJ4;go_wp2_with fail
   refine bodyPost_end (results_none rfl _ _ _) rfl ?_;refine ⟨rfl,?_,?_⟩
   ·have e1 : giveX B i k x y a b c j = upd B1 k (moreV (B1 k) a b c (mul j y)) := by rw [HB1.out.1]; rfl
    rw [e1]; exact HFN.out.1
   ·exact ((H0.out.2.2.2.2.mono (by simp)).trans HB1.out.2).trans HFN.out.2
theorem y6z (b r k : Int) (w : World) : Calls Tryz.prog 34 #[.agg #[I b,I r,I k]] w fun e w' => e = .returned (.bool (rightX b r k)) ∧ Kept w w' := by
 have e0 : rightX b r k = decide (0 ≤ b ∧ b ≤ 65536 ∧ 0 ≤ r ∧ r ≤ 65536 ∧ 0 < k ∧ k ≤ 20) := by
  unfold rightX shareX;simp only [← Bool.decide_and];congr 1;apply propext;constructor
  ·rintro ⟨⟨⟨h1,h2⟩,h3⟩,h4⟩; exact ⟨h1.1,h1.2,h2.1,h2.2,by omega,h4⟩
  ·rintro ⟨h1,h2,h3,h4,h5,h6⟩; exact ⟨⟨⟨⟨h1,h2⟩,⟨h3,h4⟩⟩,by omega⟩,h6⟩
 have HR : Hid (rightX b r k = decide (0 ≤ b ∧ b ≤ 65536 ∧ 0 ≤ r ∧ r ≤ 65536 ∧ 0 < k ∧ k ≤ 20)) := e0;clear e0;have fin : ∀ v,Hid (rightX b r k = v) → ∀ w',Kept w w' → (Ending.returned (.bool v) = Ending.returned (.bool (rightX b r k)) ∧ Kept w w') := fun v hv w' k => ⟨by rw [hv.out],k⟩;have FIN : Hid (∀ v,Hid (rightX b r k = v) → ∀ w',Kept w w' → (Ending.returned (.bool v) = Ending.returned (.bool (rightX b r k)) ∧ Kept w w')) := fin;clear fin;by_cases h1 : 0 ≤ b
 ·by_cases h2 : b ≤ 65536
  ·by_cases h3 : 0 ≤ r
   ·by_cases h4 : r ≤ 65536
    ·by_cases h5 : 0 < k
     ·by_cases h6 : k ≤ 20
      ·have HV : Hid (rightX b r k = true) := by show _ = _; rw [HR.out]; simp [h1,h2,h3,h4,h5,h6]
       go_enter Tryz.func34,Tryz.ntmps34
       go_wp2_with fail
       go_ret
       exact FIN.out _ HV _ ((Kept.refl _).alloc _ _)
      ·have HV : Hid (rightX b r k = false) := by show _ = _; rw [HR.out]; simp [h6]
       go_enter Tryz.func34,Tryz.ntmps34
       go_wp2_with fail
       go_ret
       exact FIN.out _ HV _ ((Kept.refl _).alloc _ _)
     ·have HV : Hid (rightX b r k = false) := by show _ = _; rw [HR.out]; simp [h5]
      go_enter Tryz.func34,Tryz.ntmps34
      go_wp2_with fail
      go_ret
      exact FIN.out _ HV _ ((Kept.refl _).alloc _ _)
    ·have HV : Hid (rightX b r k = false) := by show _ = _; rw [HR.out]; simp [h4]
     go_enter Tryz.func34,Tryz.ntmps34
     go_wp2_with fail
     go_ret
     exact FIN.out _ HV _ ((Kept.refl _).alloc _ _)
   ·have HV : Hid (rightX b r k = false) := by show _ = _; rw [HR.out]; simp [h3]
    go_enter Tryz.func34,Tryz.ntmps34
    go_wp2_with fail
    go_ret
    exact FIN.out _ HV _ ((Kept.refl _).alloc _ _)
  ·have HV : Hid (rightX b r k = false) := by show _ = _; rw [HR.out]; simp [h2]
   go_enter Tryz.func34,Tryz.ntmps34
   go_wp2_with fail
   go_ret
   exact FIN.out _ HV _ ((Kept.refl _).alloc _ _)
 ·have HV : Hid (rightX b r k = false) := by show _ = _; rw [HR.out]; simp [h1]
  go_enter Tryz.func34,Tryz.ntmps34
  go_wp2_with fail
  go_ret
  exact FIN.out _ HV _ ((Kept.refl _).alloc _ _)
def hitStep (n : Nat) (bo ru : Int) (B : Nat → Bd) (t : Tc) : Nat → Bd :=
 match findX B t.a n,findX B t.b n with
 | some i,some k => if i = k then B else
   if add (lightX (B i).ms) (lightX (B k).ms) = 0 then B else hitX B i k (lightX (B i).ms) (lightX (B k).ms) (add (lightX (B i).ms) (lightX (B k).ms)) t.way bo ru
 | _,_ => B
def roundT (n : Nat) (bo ru : Int) (B : Nat → Bd) (T : Nat → Tc) : Nat → Nat → Bd
 | 0 => B
 | m + 1 => hitStep n bo ru (roundT n bo ru B T m) (T m)
def roundsT (n : Nat) (bo ru : Int) (B : Nat → Bd) (T : Nat → Tc) (m : Nat) : Nat → Nat → Bd
 | 0 => B
 | p + 1 => roundT n bo ru (roundsT n bo ru B T m p) T m
def speedsT (n : Nat) (B : Nat → Bd) (T : Nat → Tc) (m : Nat) (bo ru ro : Int) : Nat → Bd :=
 if rightX bo ru ro = true then clampTo (roundsT n bo ru B T m ro.toNat) n else B
theorem cut_pos (h : 0 < n) : 0 < cut n := by unfold cut; split <;> (try split) <;> omega
theorem ygs (h : 0 ≤ n) : 0 ≤ cut n := by unfold cut; split <;> (try split) <;> omega
theorem ye0 (m : Int) : 0 ≤ lightX m := by
 unfold lightX;split
 ·omega
 ·rename_i h
  have hc := cut_pos (show 0 < m by omega);unfold div;rw [if_neg (by omega)];refine ygs (Int.tdiv_nonneg ?_ (by omega));have : cut 65536 = 65536 := y0l (by omega) (by omega);rw [this]; omega
theorem add_nn (hx : 0 ≤ x) (hy : 0 ≤ y) : 0 ≤ add x y := by
 unfold add;have h1 := ygs hx;have h2 := ygs hy;exact ygs (by omega)
theorem upd_id (B : Nat → Bd) (i : Nat) (b : Bd) (h1 : b.id = (B i).id) (h2 : b.ms = (B i).ms) (j : Nat) : (upd B i b j).id = (B j).id ∧ (upd B i b j).ms = (B j).ms := by
 unfold upd;by_cases h : j = i
 ·subst h; simp [h1,h2]
 ·simp [h]
theorem ybe (B : Nat → Bd) (i k : Nat) (x y a b c j : Int) (q : Nat) : (giveX B i k x y a b c j q).id = (B q).id ∧ (giveX B i k x y a b c j q).ms = (B q).ms := by
 unfold giveX;have h1 := upd_id B i (lessV (B i) a b c (mul j x)) rfl rfl;have h2 := upd_id (upd B i (lessV (B i) a b c (mul j x))) k (moreV (upd B i (lessV (B i) a b c (mul j x)) k) a b c (mul j y)) rfl rfl q;exact ⟨h2.1.trans (h1 q).1,h2.2.trans (h1 q).2⟩
theorem y4v (B : Nat → Bd) (i k : Nat) (x y al : Int) (v : V3) (bo ru : Int) : hitX B i k x y al v bo ru = B ∨ (∃ j,hitX B i k x y al v bo ru = giveX B i k x y v.x v.y v.z j) ∨ ∃ j a b c j',hitX B i k x y al v bo ru = giveX (giveX B i k x y v.x v.y v.z j) i k x y a b c j' := by
 unfold hitX;by_cases h1 : 0 ≤ dotX (relX (B i) (B k)) v
 ·simp [h1]
 ·simp only [h1,if_false]
  split
  ·exact Or.inr (Or.inl ⟨_,rfl⟩)
  ·exact Or.inr (Or.inr ⟨_,_,_,_,_,rfl⟩)
theorem hitX_id (B : Nat → Bd) (i k : Nat) (x y al : Int) (v : V3) (bo ru : Int) (q : Nat) : (hitX B i k x y al v bo ru q).id = (B q).id ∧ (hitX B i k x y al v bo ru q).ms = (B q).ms := by
 rcases y4v B i k x y al v bo ru with h | ⟨j,h⟩ | ⟨j,a,b,c,j',h⟩
 ·rw [h]; exact ⟨rfl,rfl⟩
 ·rw [h]; exact ybe ..
 ·rw [h]
  have h1 := ybe (giveX B i k x y v.x v.y v.z j) i k x y a b c j' q;have h2 := ybe B i k x y v.x v.y v.z j q;exact ⟨h1.1.trans h2.1,h1.2.trans h2.2⟩
theorem ygx (n : Nat) (bo ru : Int) (P : Nat → Bd) (t : Tc) : (meetX1 n P t).foldl (hitM bo ru) P = hitStep n bo ru P t := by
 unfold meetX1 hitStep
 cases findX P t.a n with
 | none => rfl
 | some i =>
  cases findX P t.b n with
  | none => rfl
  | some k =>
   simp only;by_cases e : i = k
   ·simp [e]
   ·have hn := add_nn (ye0 (P i).ms) (ye0 (P k).ms)
    by_cases ha : add (lightX (P i).ms) (lightX (P k).ms) = 0
    ·have h2 : ¬ 0 < add (lightX (P i).ms) (lightX (P k).ms) := by omega
     simp [e,ha,h2]
    ·have h2 : 0 < add (lightX (P i).ms) (lightX (P k).ms) := by omega
     simp [e,ha,h2,hitM]
theorem yh6 (n : Nat) (bo ru : Int) (B : Nat → Bd) (t : Tc) (q : Nat) : (hitStep n bo ru B t q).id = (B q).id ∧ (hitStep n bo ru B t q).ms = (B q).ms := by
 rw [← ygx]
 have key : ∀ (ms : List Mt) (C : Nat → Bd),(ms.foldl (hitM bo ru) C q).id = (C q).id ∧ (ms.foldl (hitM bo ru) C q).ms = (C q).ms := by
  intro ms
  induction ms with
  | nil => intro C; exact ⟨rfl,rfl⟩
  | cons t ms ih =>
   intro C;have h1 := ih (hitM bo ru C t);have h2 := hitX_id C t.i t.k t.x t.y t.all t.way bo ru q;exact ⟨h1.1.trans h2.1,h1.2.trans h2.2⟩
 exact key _ B
theorem y3f (n : Nat) (bo ru : Int) (B : Nat → Bd) (T : Nat → Tc) : ∀ m q,(roundT n bo ru B T m q).id = (B q).id ∧ (roundT n bo ru B T m q).ms = (B q).ms
 | 0,q => ⟨rfl,rfl⟩
 | m + 1,q => by
  have h1 := yh6 n bo ru (roundT n bo ru B T m) (T m) q;have h2 := y3f n bo ru B T m q;exact ⟨h1.1.trans h2.1,h1.2.trans h2.2⟩
theorem y4m (n : Nat) (bo ru : Int) (B : Nat → Bd) (T : Nat → Tc) (m : Nat) : ∀ p q,(roundsT n bo ru B T m p q).id = (B q).id ∧ (roundsT n bo ru B T m p q).ms = (B q).ms
 | 0,q => ⟨rfl,rfl⟩
 | p + 1,q => by
  have h1 := y3f n bo ru (roundsT n bo ru B T m p) T m q;have h2 := y4m n bo ru B T m p q;exact ⟨h1.1.trans h2.1,h1.2.trans h2.2⟩
theorem y9y (n : Nat) (bo ru : Int) (B C : Nat → Bd) (T : Nat → Tc) (h1 : ∀ i,(B i).id = (C i).id) (h2 : ∀ i,(B i).ms = (C i).ms) : ∀ m,(meetsX n B T m).foldl (hitM bo ru) C = roundT n bo ru C T m
 | 0 => rfl
 | m + 1 => by
  simp only [meetsX,roundT,List.foldl_append,y9y n bo ru B C T h1 h2 m];have h3 := y3f n bo ru C T m;rw [y7b (fun i => (h1 i).trans (h3 i).1.symm) (fun i => (h2 i).trans (h3 i).2.symm) (T m)];exact ygx n bo ru _ (T m)
theorem y81 (n : Nat) (bo ru : Int) (B : Nat → Bd) (T : Nat → Tc) (m : Nat) : ∀ p,iterM bo ru (meetsX n B T m) B p = roundsT n bo ru B T m p
 | 0 => rfl
 | p + 1 => by
  simp only [iterM,roundsT,y81 n bo ru B T m p];have h3 := y4m n bo ru B T m p;exact y9y n bo ru B _ T (fun i => (h3 i).1.symm) (fun i => (h3 i).2.symm) m
theorem y2w (n : Nat) (B : Nat → Bd) (T : Nat → Tc) (m : Nat) (bo ru ro : Int) : speedsM n B T m bo ru ro = speedsT n B T m bo ru ro := by
 unfold speedsM speedsT;rw [y81]
def InV (b : Bd) : Prop := (-6553600 ≤ b.vx ∧ b.vx ≤ 6553600) ∧ (-6553600 ≤ b.vy ∧ b.vy ≤ 6553600) ∧ (-6553600 ≤ b.vz ∧ b.vz ≤ 6553600)
def InA (b : Bd) : Prop := (-65536000 ≤ b.ax ∧ b.ax ≤ 65536000) ∧ (-65536000 ≤ b.ay ∧ b.ay ≤ 65536000) ∧ (-65536000 ≤ b.az ∧ b.az ≤ 65536000)
theorem y0q (a : Int) : mul a 0 = 0 := by
 unfold mul;have : cut 0 = 0 := y0l (by omega) (by omega);rw [this]; simp [this]
theorem y2r (h : -70368744177664 ≤ v) (k : v ≤ 70368744177664) : sub v 0 = v := by
 unfold sub;have h0 : cut 0 = 0 := y0l (by omega) (by omega);rw [h0,y0l h k,Int.sub_zero,y0l h k]
theorem y2p (h : -70368744177664 ≤ v) (k : v ≤ 70368744177664) : add v 0 = v := by
 unfold add;have h0 : cut 0 = 0 := y0l (by omega) (by omega);rw [h0,y0l h k,Int.add_zero,y0l h k]
theorem yhw (h : InV q) (a b c : Int) : lessV q a b c 0 = q := by
 unfold lessV;obtain ⟨h1,h2,h3⟩ := h;rw [y0q,y0q,y0q,y2r (by omega) (by omega),y2r (by omega) (by omega),y2r (by omega) (by omega)];rfl
theorem yih (h : InV q) (a b c : Int) : moreV q a b c 0 = q := by
 unfold moreV;obtain ⟨h1,h2,h3⟩ := h;rw [y0q,y0q,y0q,y2p (by omega) (by omega),y2p (by omega) (by omega),y2p (by omega) (by omega)];rfl
theorem y59 (B : Nat → Bd) (i k q : Nat) (x y a b c j : Int) (hx : q = i → x = 0) (hy : q = k → y = 0) (h : InV (B q)) : giveX B i k x y a b c j q = B q := by
 have e1 : upd B i (lessV (B i) a b c (mul j x)) q = B q := by
  unfold upd;by_cases e : q = i
  ·subst e; rw [if_pos rfl,hx rfl,y0q,yhw h]
  ·rw [if_neg e]
 show upd (upd B i (lessV (B i) a b c (mul j x))) k (moreV (upd B i (lessV (B i) a b c (mul j x)) k) a b c (mul j y)) q = B q;by_cases e : q = k
 ·subst e
  rw [e1,hy rfl,y0q,yih h];unfold upd; rw [if_pos rfl]
 ·rw [← e1]
  show (if q = k then _ else _) = _;rw [if_neg e]
theorem yin (B : Nat → Bd) (i k q : Nat) (x y al : Int) (v : V3) (bo ru : Int) (hx : q = i → x = 0) (hy : q = k → y = 0) (h : InV (B q)) : hitX B i k x y al v bo ru q = B q := by
 rcases y4v B i k x y al v bo ru with e | ⟨j,e⟩ | ⟨j,a,b,c,j',e⟩
 ·rw [e]
 ·rw [e]; exact y59 _ _ _ _ _ _ _ _ _ _ hx hy h
 ·have e1 := y59 B i k q x y v.x v.y v.z j hx hy h
  rw [e,y59 _ _ _ _ _ _ _ _ _ _ hx hy (by rw [e1]; exact h),e1]
def Idle (b : Bd) (t : Tc) : Prop := b.ms ≤ 0 ∨ (t.a ≠ b.id ∧ t.b ≠ b.id)
theorem y3l {m : Int} (h : m ≤ 0) : lightX m = 0 := by unfold lightX; rw [if_pos h]
theorem ybi (n : Nat) (bo ru : Int) (B : Nat → Bd) (t : Tc) (q : Nat) (h : InV (B q)) (hi : Idle (B q) t) : hitStep n bo ru B t q = B q := by
 unfold hitStep
 cases h1 : findX B t.a n with
 | none => rfl
 | some i =>
  cases h2 : findX B t.b n with
  | none => rfl
  | some k =>
   obtain ⟨_,e1⟩ := y0c h1;obtain ⟨_,e2⟩ := y0c h2;show (if i = k then B else if _ then B else _) q = B q;split
   ·rfl
   ·split
    ·rfl
    ·refine yin _ _ _ _ _ _ _ _ _ _ (fun e => ?_) (fun e => ?_) h
     ·subst e
      rcases hi with m | ⟨m,_⟩
      ·exact y3l m
      ·exact absurd e1.symm m
     ·subst e
      rcases hi with m | ⟨_,m⟩
      ·exact y3l m
      ·exact absurd e2.symm m
theorem y6y (n : Nat) (bo ru : Int) (B : Nat → Bd) (T : Nat → Tc) (q : Nat) (h : InV (B q)) : ∀ m,(∀ j,j < m → Idle (B q) (T j)) → roundT n bo ru B T m q = B q
 | 0,_ => rfl
 | m + 1,hi => by
  have e := y6y n bo ru B T q h m (fun j hj => hi j (by omega));show hitStep n bo ru (roundT n bo ru B T m) (T m) q = B q;rw [ybi n bo ru _ (T m) q (by rw [e]; exact h) (by rw [e]; exact hi m (by omega)),e]
theorem y5r (n : Nat) (bo ru : Int) (B : Nat → Bd) (T : Nat → Tc) (m q : Nat) (h : InV (B q)) (hi : ∀ j,j < m → Idle (B q) (T j)) : ∀ p,roundsT n bo ru B T m p q = B q
 | 0 => rfl
 | p + 1 => by
  have e := y5r n bo ru B T m q h hi p;show roundT n bo ru (roundsT n bo ru B T m p) T m q = B q;rw [y6y n bo ru _ T q (by rw [e]; exact h) m (by rw [e]; exact hi),e]
theorem yj8 (h : InV q) : clampB q = q := by
 unfold clampB;obtain ⟨h1,h2,h3⟩ := h;rw [y7y (by omega) (by omega),y7y (by omega) (by omega),y7y (by omega) (by omega)];rfl
theorem yci (n : Nat) (B : Nat → Bd) (T : Nat → Tc) (m : Nat) (bo ru ro : Int) (q : Nat) (h : InV (B q)) (hi : ∀ j,j < m → Idle (B q) (T j)) : speedsT n B T m bo ru ro q = B q := by
 unfold speedsT;split
 ·have e := y5r n bo ru B T m q h hi ro.toNat
  show (if q < n then clampB (roundsT n bo ru B T m ro.toNat q) else roundsT n bo ru B T m ro.toNat q) = B q;rw [e];split
  ·exact yj8 h
  ·rfl
 ·rfl
def SpOnly (p q : Bd) : Prop := q = spX p q.vx q.vy q.vz
def AtOnly (p q : Bd) : Prop := q = atX p q.ax q.ay q.az
theorem SpOnly.refl (p : Bd) : SpOnly p p := rfl
theorem AtOnly.refl (p : Bd) : AtOnly p p := rfl
theorem SpOnly.trans (h : SpOnly p q) (k : SpOnly q r) : SpOnly p r := by
 unfold SpOnly at *;rw [k,h]; rfl
theorem AtOnly.trans (h : AtOnly p q) (k : AtOnly q r) : AtOnly p r := by
 unfold AtOnly at *;rw [k,h]; rfl
theorem yc2 {P : Bd → Bd → Prop} (hr : ∀ p,P p p) (B : Nat → Bd) (i : Nat) (b : Bd) (h : P (B i) b) (q : Nat) : P (B q) (upd B i b q) := by
 unfold upd;by_cases e : q = i
 ·subst e; rw [if_pos rfl]; exact h
 ·rw [if_neg e]; exact hr _
theorem ycc (B : Nat → Bd) (i k : Nat) (x y a b c j : Int) (q : Nat) : SpOnly (B q) (giveX B i k x y a b c j q) :=
 (yc2 SpOnly.refl B i (lessV (B i) a b c (mul j x)) rfl q).trans (yc2 SpOnly.refl (upd B i (lessV (B i) a b c (mul j x))) k (moreV (upd B i (lessV (B i) a b c (mul j x)) k) a b c (mul j y)) rfl q)
theorem partX_at (B : Nat → Bd) (i k : Nat) (x y all : Int) (w : V3) (deep : Int) (q : Nat) : AtOnly (B q) (partX B i k x y all w deep q) :=
 (yc2 AtOnly.refl B i (backX (B i) w (mul (deepX deep all) x)) rfl q).trans (yc2 AtOnly.refl (upd B i (backX (B i) w (mul (deepX deep all) x))) k (forthX (upd B i (backX (B i) w (mul (deepX deep all) x)) k) w (mul (deepX deep all) y)) rfl q)
theorem hitX_sp (B : Nat → Bd) (i k : Nat) (x y al : Int) (v : V3) (bo ru : Int) (q : Nat) : SpOnly (B q) (hitX B i k x y al v bo ru q) := by
 rcases y4v B i k x y al v bo ru with e | ⟨j,e⟩ | ⟨j,a,b,c,j',e⟩
 ·rw [e]; exact SpOnly.refl _
 ·rw [e]; exact ycc ..
 ·rw [e]; exact (ycc B i k x y v.x v.y v.z j q).trans (ycc ..)
theorem yhv (n : Nat) (bo ru : Int) (B : Nat → Bd) (t : Tc) (q : Nat) : SpOnly (B q) (hitStep n bo ru B t q) := by
 unfold hitStep
 cases findX B t.a n with
 | none => exact SpOnly.refl _
 | some i =>
  cases findX B t.b n with
  | none => exact SpOnly.refl _
  | some k =>
   show SpOnly (B q) ((if i = k then B else if _ then B else _) q);split
   ·exact SpOnly.refl _
   ·split
    ·exact SpOnly.refl _
    ·exact hitX_sp ..
theorem stepX_at (n : Nat) (B : Nat → Bd) (t : Tc) (q : Nat) : AtOnly (B q) (stepX n B t q) := by
 rcases y5f n B t with e | ⟨i,k,x,y,all,e⟩
 ·rw [e]; exact AtOnly.refl _
 ·rw [e]; exact partX_at ..
theorem ydc (n : Nat) (bo ru : Int) (B : Nat → Bd) (T : Nat → Tc) (q : Nat) : ∀ m,SpOnly (B q) (roundT n bo ru B T m q)
 | 0 => SpOnly.refl _
 | m + 1 => (ydc n bo ru B T q m).trans (yhv n bo ru (roundT n bo ru B T m) (T m) q)
theorem ya7 (n : Nat) (bo ru : Int) (B : Nat → Bd) (T : Nat → Tc) (m q : Nat) : ∀ p,SpOnly (B q) (roundsT n bo ru B T m p q)
 | 0 => SpOnly.refl _
 | p + 1 => (ya7 n bo ru B T m q p).trans (ydc n bo ru (roundsT n bo ru B T m p) T q m)
theorem y4z (n : Nat) (B : Nat → Bd) (T : Nat → Tc) (m : Nat) (bo ru ro : Int) (q : Nat) : SpOnly (B q) (speedsT n B T m bo ru ro q) := by
 unfold speedsT;split
 ·have e := ya7 n bo ru B T m q ro.toNat
  show SpOnly (B q) (if q < n then clampB (roundsT n bo ru B T m ro.toNat q) else roundsT n bo ru B T m ro.toNat q);split
  ·exact e.trans rfl
  ·exact e
 ·exact SpOnly.refl _
theorem yao (n : Nat) (B : Nat → Bd) (T : Nat → Tc) (q : Nat) : ∀ m,AtOnly (B q) (placesX n B T m q)
 | 0 => AtOnly.refl _
 | m + 1 => (yao n B T q m).trans (stepX_at n (placesX n B T m) (T m) q)
end Go.Proofs.YtbenlgandjjopaaGreatDoor
