/- . -/
import Derived.Test.YtbenlgandjjopaaGreatDoorN31
import Derived.Test.YtbenlgandjjopaaGreatDoorN32
import Derived.Test.YtbenlgandjjopaaGreatDoorN33
open Go.Value renaming int → J
open Go.IntKind renaming i64 → U
open List renaming mem_singleton → zrc,mem_cons → zrd
namespace Go.Proofs.YtbenlgandjjopaaGreatDoor
set_option maxRecDepth 100000
set_option maxHeartbeats 8000000
open Go.ChangeShapes Go.WideShapes Go.ChangeAt Go.RowKit
set_option linter.unusedVariables false
set_option linter.unusedSimpArgs false
variable {w wr w' : World} {b j g n cap i : Nat} {x y z t v la st : Int} {E D : List Nat} {a : Option Addr} {C : Nat → Bd} {c : Wc} {q : Bd}
theorem RfW.steps {E : List Nat} {w : World} {x g : Nat} {c : Wc} {a : Option Addr} {n cap : Nat} {la st : Int} {C : Nat → Bd} {wr : World} (h : RfW E w x g c a n cap la st C wr) (st' : Int) : RfW E w x g c a n cap la st' C (wr.setCell (Y x 9) (I st')) := by
 have o : Only [x] wr (wr.setCell (Y x 9) (I st')) := (Only.refl [x] wr).setCell (p := Y x 9) (Or.inl (by simp)) _;exact ⟨h.wa.steps st',h.own.onlyN o (fun _ => by simp only [zrc]; exact fun e => h.xg e.symm),Nat.lt_of_lt_of_le h.glt o.size,h.xg,h.xnew,h.gnew,h.only.then o (fun b hb => by simp only [zrc] at hb; subst hb; exact h.xnew),h.sl,h.nc⟩
theorem RfW.empty {w0 : World} {x : Nat} {B : Nat → Bd} {w8 : World} (h : RfW E w0 x g c a n cap la st B w) (o : Only [] w w8) {a' : Option Addr} {n' cap' : Nat} (hn : n' = 0) (hsl : SlArg a' n' cap') (hnc : n' ≤ cap') :
  RfW E w0 x g c a' n' cap' la st C (w8.setCell (Y x 7) (.slice a' n' cap')) := by
 have ho : Only [x] w8 (w8.setCell (Y x 7) (.slice a' n' cap')) := (Only.refl [x] w8).setCell (p := Y x 7) (Or.inl (by simp)) _;exact ⟨(h.wa.only o (by simp)).slice a' n' cap',Or.inl hn,Nat.lt_of_lt_of_le (Nat.lt_of_lt_of_le h.glt o.size) ho.size,h.xg,h.xnew,h.gnew,(h.only.trans (o.mono (by simp))).then ho (fun b hb => by simp only [zrc] at hb; rw [hb]; exact h.xnew),hsl,hnc⟩
theorem RW.apart (h : RW w a g n C wr) (o : Only D wr w') (hg : g ∉ D) (hD : ∀ b ∈ D,w.heap.size ≤ b) : RW w a g n C w' := ⟨h.own.only o hg,h.only.then o (fun b hb => Or.inr (hD b hb)),h.new⟩
def I3 (w : World) (b : Nat) (x y z : Int) : Prop := w.heap[b]? = some (.cells #[J U x,J U y,J U z] 3)
theorem I3.lt (h : I3 w b x y z) : b < w.heap.size := (Array.getElem?_eq_some_iff.1 h).1
theorem I3.only (h : I3 w b x y z) (o : Only D w w') (s : b ∉ D) : I3 w' b x y z := (o.block b h.lt s).trans h
theorem I3.row (h : I3 w b x y z) : Row3 b x y z w := by unfold I3 at h; exact ⟨by simp [World.cell?,h],by simp [World.cell?,h],by simp [World.cell?,h]⟩
theorem I3.free (h : I3 w b x y z) (j : Nat) : w.frozen? (Y b j) = false := by unfold I3 at h; simp [World.frozen?,h]
def sel3 (x y z : Int) : Nat → Int
 | 0 => x
 | 1 => y
 | _ => z
theorem I3.at (h : I3 w b x y z) (hj : j < 3) : w.cell? (Y b j) = some (J U (sel3 x y z j)) := by
 have hr := h.row
 match j,hj with
 | 0,_ => exact hr.1
 | 1,_ => exact hr.2.1
 | 2,_ => exact hr.2.2
theorem y2t (x y z : Int) (w : World) : Calls Tryz.prog 52 #[.agg #[I x,I y,I z]] w fun e w' => ∃ b,e = .returned (.slice (some (Y b 0)) 3 3) ∧ Kept w w' ∧ w.heap.size ≤ b ∧ I3 w' b x y z := by
 go_enter Tryz.func52,Tryz.ntmps52
 go_wp2
 go_ret
 have h1 := (MapKept.heap_alloc (w.alloc (.cells #[I x,I y,I z] 23)) (.cells #[I x,I y,I z] 3)).1;have h2 : (w.alloc (.cells #[I x,I y,I z] 23)).heap.size = w.heap.size + 1 := by simp
 rw [h2] at h1;exact ⟨w.heap.size + 1,rfl,((Kept.refl _).alloc _ _).alloc _ _,Nat.le_succ _,h1⟩
def mvS (j i : Nat) (t a v : Int) : Int := if i < j ∧ t ≠ a then 0 else v
theorem yc6 (i : Nat) (t a v : Int) : mvS 0 i t a v = v := by unfold mvS; rw [if_neg (by omega)]
theorem yfa (hi : i < 3) (t a v : Int) : mvS 3 i t a v = if a = t then v else 0 := by
 unfold mvS;by_cases h : a = t
 ·rw [if_pos h,if_neg (by omega)]
 ·rw [if_neg h,if_pos ⟨hi,fun e => h e.symm⟩]
theorem y7g {a : Int} (i : Nat) (h : i = j → t = a) : mvS (j + 1) i t a v = mvS j i t a v := by
 unfold mvS;by_cases e : i = j
 ·rw [if_neg (by have := h e; omega),if_neg (by omega)]
 ·by_cases e1 : i < j ∧ t ≠ a
  ·rw [if_pos e1,if_pos ⟨by omega,e1.2⟩]
  ·rw [if_neg e1,if_neg (by omega)]
theorem ybr {a : Int} (h : t ≠ a) : mvS (j + 1) j t a v = 0 := by unfold mvS; rw [if_pos ⟨by omega,h⟩]
theorem y1h {a : Int} (h : i ≠ j) : mvS (j + 1) i t a v = mvS j i t a v := y7g i (fun e => absurd e h)
theorem moveB_is (q : Bd) : spX (atX q (cl 65536000 (add q.ax q.vx)) (cl 65536000 (add q.ay q.vy)) (cl 65536000 (add q.az q.vz))) (mvS 3 0 (add q.ax q.vx) (cl 65536000 (add q.ax q.vx)) q.vx) (mvS 3 1 (add q.ay q.vy) (cl 65536000 (add q.ay q.vy)) q.vy) (mvS 3 2 (add q.az q.vz) (cl 65536000 (add q.az q.vz)) q.vz) = moveB q := by
 rw [yfa (by omega),yfa (by omega),yfa (by omega)]; rfl
def MvI (w : World) (b : Nat) (j : Nat) (q : Bd) : Prop := I3 w b (mvS j 0 (add q.ax q.vx) (cl 65536000 (add q.ax q.vx)) q.vx) (mvS j 1 (add q.ay q.vy) (cl 65536000 (add q.ay q.vy)) q.vy) (mvS j 2 (add q.az q.vz) (cl 65536000 (add q.az q.vz)) q.vz)
theorem MvI.same (h : MvI w b j q) (hj : j < 3) (e : sel3 (add q.ax q.vx) (add q.ay q.vy) (add q.az q.vz) j = sel3 (cl 65536000 (add q.ax q.vx)) (cl 65536000 (add q.ay q.vy)) (cl 65536000 (add q.az q.vz)) j) : MvI w b (j + 1) q := by
 unfold MvI
 match j,hj,e,h with
 | 0,_,e,h => rw [y7g (j := 0) 0 (fun _ => (show (add q.ax q.vx) = cl 65536000 (add q.ax q.vx) from e)),y1h (j := 0) (i := 1) (by omega),y1h (j := 0) (i := 2) (by omega)]; exact h
 | 1,_,e,h => rw [y1h (j := 1) (i := 0) (by omega),y7g (j := 1) 1 (fun _ => (show (add q.ay q.vy) = cl 65536000 (add q.ay q.vy) from e)),y1h (j := 1) (i := 2) (by omega)]; exact h
 | 2,_,e,h => rw [y1h (j := 2) (i := 0) (by omega),y1h (j := 2) (i := 1) (by omega),y7g (j := 2) 2 (fun _ => (show (add q.az q.vz) = cl 65536000 (add q.az q.vz) from e))]; exact h
theorem MvI.gone (h : MvI w b j q) (hj : j < 3) (e : sel3 (add q.ax q.vx) (add q.ay q.vy) (add q.az q.vz) j ≠ sel3 (cl 65536000 (add q.ax q.vx)) (cl 65536000 (add q.ay q.vy)) (cl 65536000 (add q.az q.vz)) j) : MvI (w.setCell (Y b j) (J U 0)) b (j + 1) q := by
 unfold MvI
 match j,hj,e,h with
 | 0,_,e,h => rw [ybr (j := 0) (show (add q.ax q.vx) ≠ (cl 65536000 (add q.ax q.vx)) from e),y1h (j := 0) (i := 1) (by omega),y1h (j := 0) (i := 2) (by omega)]; exact y0f h _ _
 | 1,_,e,h => rw [y1h (j := 1) (i := 0) (by omega),ybr (j := 1) (show (add q.ay q.vy) ≠ (cl 65536000 (add q.ay q.vy)) from e),y1h (j := 1) (i := 2) (by omega)]; exact y0f h _ _
 | 2,_,e,h => rw [y1h (j := 2) (i := 0) (by omega),y1h (j := 2) (i := 1) (by omega),ybr (j := 2) (show (add q.az q.vz) ≠ (cl 65536000 (add q.az q.vz)) from e)]; exact y0f h _ _
theorem step_is (c : Wc) (B : Nat → Bd) (n : Nat) (ts : List Tc) : stepT c B n ts = placesX n (mapTo moveB (speedsT n (mapTo (driveB c) B n) (fun j => ts.getD j tc0) ts.length c.bo c.ru c.ro) n) (fun j => ts.getD j tc0) ts.length := by rw [← y2w]; rfl
def SvB (g i : Nat) (q : Bd) (w' : World) : Prop := w'.cell? ⟨g,i * 17 + 6,none⟩ = some (J U q.ax) ∧ w'.cell? ⟨g,i * 17 + 7,none⟩ = some (J U q.ay) ∧ w'.cell? ⟨g,i * 17 + 8,none⟩ = some (J U q.az) ∧ w'.cell? ⟨g,i * 17 + 9,none⟩ = some (J U q.vx) ∧ w'.cell? ⟨g,i * 17 + 10,none⟩ = some (J U q.vy) ∧ w'.cell? ⟨g,i * 17 + 11,none⟩ = some (J U q.vz)
def SvC (g i r : Nat) (q : Bd) (w' : World) : Prop := w'.cell? ⟨g,i * 17 + 6,none⟩ = some (J U (cl 65536000 (add q.ax q.vx))) ∧ w'.cell? ⟨g,i * 17 + 7,none⟩ = some (J U (cl 65536000 (add q.ay q.vy))) ∧ w'.cell? ⟨g,i * 17 + 8,none⟩ = some (J U (cl 65536000 (add q.az q.vz))) ∧ w'.cell? ⟨g,i * 17 + 9,none⟩ = some (J U q.vx) ∧ w'.cell? ⟨g,i * 17 + 10,none⟩ = some (J U q.vy) ∧ w'.cell? ⟨g,i * 17 + 11,none⟩ = some (J U q.vz) ∧ w'.cell? ⟨r,0,none⟩ = some (J U (add q.ax q.vx)) ∧ w'.cell? ⟨r,1,none⟩ = some (J U (add q.ay q.vy)) ∧ w'.cell? ⟨r,2,none⟩ = some (J U (add q.az q.vz))
def RStep (E : List Nat) (w0 : World) (x : Nat) (c : Wc) (n : Nat) (la st : Int) (C : Nat → Bd) (e : Ending) (w' : World) : Prop := e = .returned (.tuple #[]) ∧ ∃ g a cap,RfW E w0 x g c a n cap la (st + 1) C w'
theorem yct (w0 : World) (x g : Nat) (c : Wc) (a : Option Addr) (n cap : Nat) (la st : Int) (B : Nat → Bd) (w : World) (hn : n ≤ 60) (h : RfW E w0 x g c a n cap la st B w) (hr : Rises B n) (hid : ∀ j,In64S (B j).id) (hs : ∀ j,j < n → rightB (B j).kd (B j).sx (B j).sy (B j).sz = true) (hst : 0 ≤ st) (hst' : st ≤ 1000000) :
  Calls Tryz.prog 14 #[.pointer (some (Y x 0))] w (RStep E w0 x c n la st (stepT c B n (tchL B n (allP B n n)))) := by
 have HW : Hid (RfW E w0 x g c a n cap la st B w ∧ n ≤ 60 ∧ Rises B n ∧ (∀ j,In64S (B j).id)) := ⟨h,hn,hr,hid⟩;have HSH : Hid (∀ j,j < n → rightB (B j).kd (B j).sx (B j).sy (B j).sz = true) := hs;have l9 := HW.out.1.wa.off 9;have f9 := HW.out.1.wa.free 9;simp only [zR] at l9;clear h hn hr hid hs;go_enter Tryz.func14,Tryz.ntmps14
 go_upto_region 1 with fail
 clear l9 f9 hst hst';have H1 : Hid (RfW E w0 x g c a n cap la (st + 1) B (w.setCell (Y x 9) (I (st + 1)))) := HW.out.1.steps _;generalize World.setCell w _ _ = w1 at H1 ⊢;go_cut [2] from 18 to 23 (fun s2 wc => ∃ a1 g1 c1,s2 = .slice a1 n c1 ∧ RW w1 a1 g1 n B wc ∧ SlArg a1 n c1 ∧ n ≤ c1)
 case first =>
  have s7 := (H1.out.wa.only ((Only.refl [] w1).alloc (.cells #[] 45)) (by simp)).off 7;simp only [zR] at s7
  cases a with
  | none =>
   obtain ⟨rfl,rfl⟩ := H1.out.sl rfl;go_wp2_with fail
   go_meet
   case rel => exact ⟨_,w1.heap.size,_,rfl,⟨Or.inl rfl,(Only.refl [] w1).alloc _,Nat.le_refl _⟩,(fun e => by cases e),Nat.le_refl _⟩
  | some ad =>
   obtain ⟨i2,hi0,hz0,hz1,hz2⟩ := y0k bodyInfo;have hcell := y2c (H1.out.own.bodies.only ((Only.refl [] w1).alloc (.cells #[] 45)));have hn := HW.out.2.1;have hown : (w1.alloc (.cells #[] 45)).ownsRow w1.heap.size 45 17 (.slice (some (Y w1.heap.size 0)) 0 0) 0 [] := ⟨rfl,Or.inr ⟨w1.heap.size,0,#[],rfl,Nat.le_refl _,(MapKept.heap_alloc w1 _).1,by omega,by unfold maxLen; omega,rfl,rfl⟩⟩;go_wp2_with (first | (at_builtin; refine wpList_append_own_at _ rfl _ _ 36 rfl w1.heap.size 45 i2 (.agg #[I 0,I 0,I 0,I 0,I 0,I 0,I 0,I 0,I 0,I 0,I 0,I 0,I 0,I 0,I 0,I 0,I 0]) 17 136 Tryz.underlying36 hi0 hz0 hz1 hz2 rfl (by decide) (.slice (some (Y w1.heap.size 0)) 0 0) 0 [] rfl hown ad n cap (rowsL B n) rfl (y18 B n) hcell (y1t B n) (by unfold maxLen; omega) (by omega) (by simp) ?_; intro v' w5 hown hgrow hnil hloc; simp only [Nat.zero_add,List.nil_append] at hown; have H5 : Hid (w5.ownsRow w1.heap.size 45 17 v' n (rowsL B n) ∧ Only [] w1 w5) := ⟨hown,((Only.refl [] w1).alloc _).grown hgrow (fun k hk => by simp [Value.ownBlock] at hk; exact Or.inr (by omega))⟩; clear hown hgrow hnil hloc hcell))
   obtain ⟨a',g',c',rfl,hS,hg⟩ := OwnS.of_row H5.out.1;have HF6 : Hid (SlArg a' n c' ∧ n ≤ c') := (Room.of_row H5.out.1).fit
   have H6 : Hid (∃ g,RW w1 a' g n B w5) := by
    by_cases h0 : n = 0
    ·exact ⟨w1.heap.size,Or.inl h0,H5.out.2,Nat.le_refl _⟩
    ·exact ⟨g',hS,H5.out.2,hg h0⟩
   clear hS hg H5 s7;go_wp2_with fail
   go_meet
   case rel => exact ⟨a',H6.out.choose,c',rfl,H6.out.choose_spec,HF6.out⟩
 case rest =>
  obtain ⟨a1,g1,c1,rfl,hrw,hfit⟩ := hcut;have H2 : Hid (RW w1 a1 g1 n B wc) := hrw;have HF1 : Hid (SlArg a1 n c1 ∧ n ≤ c1) := hfit;clear hrw hfit;go_wp2_with fail
  go_loopg [26] n (fun k idx wr => ∃ i : Nat,idx = I (i : Int) ∧ Hid (i ≤ n ∧ k = n - i) ∧ Hid (RW w1 a1 g1 n (mapTo (driveB c) B i) wr))
  case atStart => exact ⟨0,rfl,⟨by omega,rfl⟩,by rw [y50]; exact H2⟩
  case round =>
   clear H2;obtain ⟨i,rfl,H3,HR⟩ := hrel;have hn := HW.out.2.1;by_cases hi : i < n
   ·have hil : (i : Int) < (n : Int) := by omega
    obtain ⟨ha1,hO⟩ := HR.out.there hi;subst ha1;obtain ⟨q,hq⟩ : ∃ q,B i = q := ⟨_,rfl⟩;have hqm : mapTo (driveB c) B i i = q := by rw [y7l,hq]
    have HO : Hid (OwnB wr g1 n (mapTo (driveB c) B i)) := hO;have HQ : Hid (B i = q ∧ mapTo (driveB c) B i i = q) := ⟨hq,hqm⟩;have d15 := hO.cell hi (show 15 < 17 by omega);rw [hqm] at d15;simp only [bc] at d15;clear hO hq hqm;by_cases hms : 0 < q.ms
    ·as_aux_lemma =>
      have HE : Hid (driveB c q = spX q (cl 6553600 (add (add q.vx q.px) c.fx)) (cl 6553600 (add (add q.vy q.py) c.fy)) (cl 6553600 (add (add q.vz q.pz) c.fz))) := by show driveB c q = _; unfold driveB; rw [if_pos hms]
      go_upto_region 6 with fail
      clear d15 hms;have HXW : Hid (RwAt wr x c a n cap la (st + 1)) := H1.out.wa.only HR.out.only (by simp);have HXG : Hid (x ≠ g1) := by have h1 := H1.out.wa.lt; have h2 := HR.out.new; show x ≠ g1; omega
      have HC : Hid (∀ w',Kept wr w' → ∀ k,k < 17 → w'.cell? (Y g1 (i * 17 + k)) = some (bc q k)) := fun w' o k hk => by rw [← HQ.out.2]; exact y00 o (HO.out.cell hi hk)
      have HKO : Hid (∀ w',Only [g1] wr w' → (w'.cell? (Y g1 (i * 17 + 12)) = some (I q.px) ∧ w'.cell? (Y g1 (i * 17 + 13)) = some (I q.py) ∧ w'.cell? (Y g1 (i * 17 + 14)) = some (I q.pz)) → Only [g1] wr w' ∧ w'.cell? (Y g1 (i * 17 + 12)) = some (I q.px) ∧ w'.cell? (Y g1 (i * 17 + 13)) = some (I q.py) ∧ w'.cell? (Y g1 (i * 17 + 14)) = some (I q.pz) ∧ w'.cell? (Y x 0) = some (I c.fx) ∧ w'.cell? (Y x 1) = some (I c.fy) ∧ w'.cell? (Y x 2) = some (I c.fz)) := fun w' o hp => ⟨o,hp.1,hp.2.1,hp.2.2,(HXW.out.only o (by simp only [zrc]; exact HXG.out)).off 0,(HXW.out.only o (by simp only [zrc]; exact HXG.out)).off 1,(HXW.out.only o (by simp only [zrc]; exact HXG.out)).off 2⟩;have HKK : Hid (∀ w',Kept wr w' → Only [g1] wr w' ∧ w'.cell? (Y g1 (i * 17 + 12)) = some (I q.px) ∧ w'.cell? (Y g1 (i * 17 + 13)) = some (I q.py) ∧ w'.cell? (Y g1 (i * 17 + 14)) = some (I q.pz) ∧ w'.cell? (Y x 0) = some (I c.fx) ∧ w'.cell? (Y x 1) = some (I c.fy) ∧ w'.cell? (Y x 2) = some (I c.fz)) := fun w' o => HKO.out w' (Only.of_kept o) ⟨HC.out w' o 12 (by omega),HC.out w' o 13 (by omega),HC.out w' o 14 (by omega)⟩;refine wp_region_held_drew (S := (fun w' => Only [g1] wr w' ∧ Zc w' g1 (i * 17 + 12) q.px ∧ Zc w' g1 (i * 17 + 13) q.py ∧ Zc w' g1 (i * 17 + 14) q.pz ∧ Zc w' x 0 c.fx ∧ Zc w' x 1 c.fy ∧ Zc w' x 2 c.fz)) (by kernel_rfl) ?_ (fun hJ1 => ?_)
      ·exact HKK.out _ (Kept.refl wr).drew
      refine tkU 0 (h:=tkU 1 (h:=tkU 2 (h:=tkV 3 ?_)));try simp only [zP]
      refine tkU 4 (h:=tkU 5 (h:=tkU 7 (h:=tkV 8 ?_)));try simp only [zP]
      refine tkU 9 (h:=tkU 10 (h:=tkU 11 (h:=tkV 13 ?_)));try simp only [zP]
      refine tkU 14 (h:=tkU 15 (h:=tkV 16 ?_));try simp only [zP]
      refine rdW 6 rfl fun K hK => ?_;have e9 := HC.out _ (Kept.refl wr).drew 9 (by omega); have e10 := HC.out _ (Kept.refl wr).drew 10 (by omega); have e11 := HC.out _ (Kept.refl wr).drew 11 (by omega);simp only [bc] at e9 e10 e11;simp only [zQ];go_simp;clear e9 e10 e11;refine hK.out _ _ ?_ fun hHx => ?_
      ·exact HKK.out _ (Kept.refl wr).drew
      clear hK K hHx;try simp only [zP]
      refine rdW 12 rfl fun K hK => ?_;simp only [zQ];go_simp
      (go_at_call 50; refine (y1d _ _ _ _ _ _ _).mono ?_; rintro e w2 ⟨rfl,k2⟩)
      try go_wp2_with fail
      refine hK.out _ _ ?_ fun hJ2 => ?_
      ·exact HKK.out _ ((Kept.refl wr).drew.trans k2)
      clear hK K hJ1;try simp only [zP]
      refine rdW 17 rfl fun K hK => ?_;simp only [zQ];go_simp
      (go_at_call 50; refine (y1d _ _ _ _ _ _ _).mono ?_; rintro e w3 ⟨rfl,k3⟩)
      try go_wp2_with fail
      refine hK.out _ _ ?_ fun hJ3 => ?_
      ·exact HKK.out _ (((Kept.refl wr).drew.trans k2).trans k3)
      clear hK K hJ2;try simp only [zP]
      refine rdW 18 rfl fun K hK => ?_;simp only [zQ];go_simp
      (go_at_call 33; refine (y0n _ _ _ _ _ (by decide)).mono ?_; rintro e w4 ⟨rfl,k4⟩; simp only [y3s])
      try go_wp2_with fail
      refine hK.out _ _ ?_ fun hJ4 => ?_
      ·exact HKK.out _ ((((Kept.refl wr).drew.trans k2).trans k3).trans k4)
      clear hK K hJ3;try simp only [zP]
      refine tkU 19 (h:=tkV 20 ?_);try simp only [zP]
      have K4 : Hid (Kept wr w4) := (((Kept.refl wr).drew.trans k2).trans k3).trans k4;clear k2 k3 k4
      have HFN : Hid (OwnB (((w4.setCell (Y g1 (i * 17 + 9)) (I (cl 6553600 (add (add q.vx q.px) c.fx)))).setCell (Y g1 (i * 17 + 10)) (I (cl 6553600 (add (add q.vy q.py) c.fy)))).setCell (Y g1 (i * 17 + 11)) (I (cl 6553600 (add (add q.vz q.pz) c.fz)))) g1 n (upd (mapTo (driveB c) B i) i (driveB c q)) ∧ Only [g1] wr (((w4.setCell (Y g1 (i * 17 + 9)) (I (cl 6553600 (add (add q.vx q.px) c.fx)))).setCell (Y g1 (i * 17 + 10)) (I (cl 6553600 (add (add q.vy q.py) c.fy)))).setCell (Y g1 (i * 17 + 11)) (I (cl 6553600 (add (add q.vz q.pz) c.fz))))) := by
       have h1 := (HO.out.only (Only.of_kept (D := []) K4.out) (by simp)).putSp hi (cl 6553600 (add (add q.vx q.px) c.fx)) (cl 6553600 (add (add q.vy q.py) c.fy)) (cl 6553600 (add (add q.vz q.pz) c.fz));rw [HQ.out.2] at h1;rw [HE.out];exact ⟨h1,((((Only.of_kept K4.out).setCell (p := Y g1 (i * 17 + 9)) (Or.inl (by simp)) _).setCell (p := Y g1 (i * 17 + 10)) (Or.inl (by simp)) _).setCell (p := Y g1 (i * 17 + 11)) (Or.inl (by simp)) _)⟩
      have e9 := HC.out _ K4.out 9 (by omega); have e10 := HC.out _ K4.out 10 (by omega); have e11 := HC.out _ K4.out 11 (by omega);simp only [bc] at e9 e10 e11;have f9 := y01 K4.out (HO.out.free (i * 17 + 9)); have f10 := y01 K4.out (HO.out.free (i * 17 + 10)); have f11 := y01 K4.out (HO.out.free (i * 17 + 11));refine rdW 21 rfl fun K hK => ?_;simp only [zQ];go_simp;refine hK.out _ _ ?_ fun hJ9 => ?_
      ·exact HKO.out _ HFN.out.2 (HFN.out.1.push hi (by rw [y0s,HE.out]; exact ⟨rfl,rfl,rfl⟩))
      clear hK K hJ9;try simp only [zP]
      refine wpAnyH_done (by kernel_rfl) ?_ _;clear e9 e10 e11 f9 f10 f11
      have HFN : Hid (RW w1 (some (Y g1 0)) g1 n (mapTo (driveB c) B (i + 1)) (((w4.setCell (Y g1 (i * 17 + 9)) (I (cl 6553600 (add (add q.vx q.px) c.fx)))).setCell (Y g1 (i * 17 + 10)) (I (cl 6553600 (add (add q.vy q.py) c.fy)))).setCell (Y g1 (i * 17 + 11)) (I (cl 6553600 (add (add q.vz q.pz) c.fz))))) := by
       rw [y3j,HQ.out.1];exact HR.out.turn rfl HFN.out.1 HFN.out.2
      clear K4 HC HKO HKK HXW HXG;generalize (((w4.setCell (Y g1 (i * 17 + 9)) (I (cl 6553600 (add (add q.vx q.px) c.fx)))).setCell (Y g1 (i * 17 + 10)) (I (cl 6553600 (add (add q.vy q.py) c.fy)))).setCell (Y g1 (i * 17 + 11)) (I (cl 6553600 (add (add q.vz q.pz) c.fz)))) = w5 at HFN ⊢;go_wp2_with fail
      go_roundg (n - (i + 1))
      case measure => have := H3.out.2; omega
      case rel => exact ⟨i + 1,by go_num,⟨by omega,rfl⟩,HFN⟩
    ·have HE : Hid (mapTo (driveB c) B (i + 1) = mapTo (driveB c) B i) := by
      show mapTo (driveB c) B (i + 1) = mapTo (driveB c) B i;have h1 : driveB c (B i) = mapTo (driveB c) B i i := by rw [HQ.out.2,HQ.out.1]; unfold driveB; rw [if_neg hms]
      rw [y3j,h1,y29]
     go_wp2_with fail
     go_roundg (n - (i + 1))
     case measure => have := H3.out.2; omega
     case rel => exact ⟨i + 1,by go_num,⟨by omega,rfl⟩,by rw [HE.out]; exact HR⟩
   ·have hil : ¬ (i : Int) < (n : Int) := by omega
    obtain rfl : i = n := by have := H3.out.1; omega
    obtain ⟨B1,hB1⟩ : ∃ B1,B1 = mapTo (driveB c) B i := ⟨_,rfl⟩;rw [← hB1] at HR;have HB1 : Hid (B1 = mapTo (driveB c) B i) := hB1;clear hB1;go_wp2_with fail
    refine (y3h w0 x g c a i cap la (st + 1) B wr HW.out.2.1 (H1.out.keep HR.out.only) HW.out.2.2.1 HSH.out).mono ?_;rintro e w2 ⟨v,rfl,hT⟩;obtain ⟨ts,hts⟩ : ∃ ts,ts = tchL B i (allP B i i) := ⟨_,rfl⟩;rw [← hts] at hT;obtain ⟨b,d,rfl,htc,hbn⟩ := hT.sl.touches (by rw [hts]; exact yfh HW.out.2.2.2);obtain ⟨T,hTT⟩ : ∃ T : Nat → Tc,T = fun j => ts.getD j tc0 := ⟨_,rfl⟩;obtain ⟨m,hm⟩ : ∃ m,m = ts.length := ⟨_,rfl⟩
    have HSTEP : Hid (stepT c B i (tchL B i (allP B i i)) = placesX i (mapTo moveB (speedsT i B1 T m c.bo c.ru c.ro) i) T m) := by
     show stepT c B i _ = _;rw [← hts,step_is,hTT,hm,HB1.out]
    have HM : Hid (m ≤ 3600) := by
     show m ≤ 3600;rw [hm,hts];refine Nat.le_trans (y4w B i _) (Nat.le_trans (y7r B i i) ?_);exact Nat.mul_le_mul HW.out.2.1 HW.out.2.1
    rw [← hTT,← hm] at htc;have H4 : Hid (RW w1 a1 g1 i B1 w2 ∧ TouchesAt w2 b m T ∧ ∀ gb o s,b = some ⟨gb,o,s⟩ → gb < w2.heap.size) := ⟨HR.out.keep hT.only,htc,fun gb o s e => (hbn gb o s e).2⟩;rw [← hm];clear hT hts htc hbn hTT hm HR;have l3 := ((H1.out.wa.only H4.out.1.only (by simp))).off 3; have l4 := ((H1.out.wa.only H4.out.1.only (by simp))).off 4; have l5 := ((H1.out.wa.only H4.out.1.only (by simp))).off 5;simp only [zR] at l3 l4 l5;go_wp2_with fail
    refine (y36 a1 b i c1 m d B1 T c.bo c.ru c.ro w2 HW.out.2.1 HM.out H4.out.1.own.bodies HF1.out.1 H4.out.2.1).mono ?_;rintro e w3 ⟨a3,g3,c3,rfl,hO3,o3,hg3,hs3,hc3⟩;clear l3 l4 l5;obtain ⟨B2,hB2⟩ : ∃ B2,B2 = speedsT i B1 T m c.bo c.ru c.ro := ⟨_,rfl⟩;rw [← hB2] at hO3 HSTEP;have H5 : Hid (RW w1 a3 g3 i B2 w3 ∧ TouchesAt w3 b m T ∧ SlArg a3 i c3 ∧ i ≤ c3) := ⟨⟨hO3,H4.out.1.only.trans o3,Nat.le_trans H4.out.1.only.size hg3⟩,H4.out.2.1.only o3,hs3,hc3⟩;have HTB : Hid (∀ gb o s,b = some ⟨gb,o,s⟩ → gb ∉ [g3] ∧ gb < w3.heap.size) := fun gb o s e => ⟨by have := H4.out.2.2 gb o s e; simp only [zrc]; omega,Nat.lt_of_lt_of_le (H4.out.2.2 gb o s e) o3.size⟩;clear hO3 o3 hg3 hs3 hc3 hB2 H4 HB1;go_wp2_with fail
    go_loopg [68] i (fun k idx wr => ∃ j : Nat,idx = I (j : Int) ∧ Hid (j ≤ i ∧ k = i - j) ∧ Hid (RW w1 a3 g3 i (mapTo moveB B2 j) wr ∧ TouchesAt wr b m T ∧ w3.heap.size ≤ wr.heap.size))
    case atStart => exact ⟨0,rfl,⟨by omega,rfl⟩,by rw [y50]; exact ⟨H5.out.1,H5.out.2.1,Nat.le_refl _⟩⟩
    case round =>
     obtain ⟨j,rfl,H6,HR⟩ := hrel;have hn := HW.out.2.1;by_cases hj : j < i
     ·have hjl : (j : Int) < (i : Int) := by omega
      obtain ⟨ha3,hO⟩ := HR.out.1.there hj;subst ha3;obtain ⟨q,hq⟩ : ∃ q,B2 j = q := ⟨_,rfl⟩;have HQ : Hid (B2 j = q ∧ mapTo moveB B2 j j = q) := ⟨hq,by rw [y7l,hq]⟩;have HO : Hid (OwnB wr g3 i (mapTo moveB B2 j)) := hO;clear hO hq;have HC : Hid (∀ w',Kept wr w' → ∀ k,k < 17 → w'.cell? (Y g3 (j * 17 + k)) = some (bc q k)) := fun w' o k hk => by rw [← HQ.out.2]; exact y00 o (HO.out.cell hj hk)
      have HK : Hid (∀ w',Kept wr w' → Kept wr w' ∧ SvB g3 j q w') := fun w' o => ⟨o,HC.out w' o 6 (by omega),HC.out w' o 7 (by omega),HC.out w' o 8 (by omega),HC.out w' o 9 (by omega),HC.out w' o 10 (by omega),HC.out w' o 11 (by omega)⟩;go_upto_region 13 with fail
      go_cut [6] from 71 to 81 (fun s6 wc => ∃ r,s6 = .pointer (some (Y r 0)) ∧ Kept wr wc ∧ wr.heap.size ≤ r ∧ VecAt wc r (add q.ax q.vx) (add q.ay q.vy) (add q.az q.vz))
      case first =>
       as_aux_lemma =>
        refine wp_region_held_drew (S := (fun w' => Kept wr w' ∧ Zc w' g3 (j * 17 + 6) q.ax ∧ Zc w' g3 (j * 17 + 7) q.ay ∧ Zc w' g3 (j * 17 + 8) q.az ∧ Zc w' g3 (j * 17 + 9) q.vx ∧ Zc w' g3 (j * 17 + 10) q.vy ∧ Zc w' g3 (j * 17 + 11) q.vz)) (by kernel_rfl) ?_ (fun hJ1 => ?_)
        ·exact HK.out _ (Kept.refl wr).drew
        refine tkU 0 (h:=tkU 1 (h:=tkU 2 (h:=tkV 3 ?_)));try simp only [zP]
        refine tkU 4 (h:=tkU 5 (h:=tkU 6 (h:=tkV 7 ?_)));try simp only [zP]
        refine tkU 8 (h:=tkV 9 ?_);try simp only [zP]
        refine y22 [⟨10,81,.agg #[I (add q.ax q.vx),I (add q.ay q.vy),I (add q.az q.vz)]⟩] [(11,6)] #[I 0,I 0,I 0] 23 1 (by kernel_rfl) (by decide) (by simp) ?_ ?_ (fun w' kw _ => HK.out _ (((Kept.refl wr).drew.trans kw).alloc _ _)) (HK.out _ (Kept.refl wr).drew) ?_
        ·intro done cc rest hd xs w' K kw hs hK
         obtain ⟨rfl,rfl⟩ := calls1 hd;simp only [putX,putCs,List.foldl_cons,List.foldl_nil,zT] at hK ⊢;unfold wpOp;simp only [zR];first | (with_reducible refine iteYes ?hcx ?htx; case hcx => kernel_rfl) | rw [if_pos (by rfl)]
         left;go_simp
         (go_at_call 50; refine (y1d _ _ _ _ _ _ _).mono ?_; rintro e w2 ⟨rfl,k2⟩)
         try go_wp2_with fail
         exact hK _ k2 (HK.out _ ((Kept.refl wr).drew.trans (kw.trans k2)))
        ·intro p hp a' w' K hK
         simp only [zrd,List.not_mem_nil,or_false] at hp;subst hp
         all_goals
          unfold wpOp;simp only [zR];first | (with_reducible refine iteYes ?hcx ?htx; case hcx => kernel_rfl) | rw [if_pos (by rfl)]
          left;go_simp
          exact hK
        ·intro f wz0 hf hinj kz hs
         have hP := hf (11,6) (by simp);simp only at hP;simp only [setN,putX,putCs,ptrV,List.map_cons,List.map_nil,List.cons_append,List.nil_append,List.foldl_cons,List.foldl_nil,zT];clear hf hinj;generalize f 6 = pp at hP ⊢;have KZ : Hid (Kept wr wz0) := (Kept.refl wr).drew.trans kz;clear kz hs;have Hpp : Hid (wr.heap.size ≤ pp ∧ wz0.heap[pp]? = some (.cells #[I 0,I 0,I 0] 23)) := hP;clear hP;have z0 := y08 Hpp.out.2 0; have y0 := y0h Hpp.out.2 0; have z1 := y08 Hpp.out.2 1; have y1 := y0h Hpp.out.2 1; have z2 := y08 Hpp.out.2 2; have y2 := y0h Hpp.out.2 2;simp only [zR] at z0 z1 z2;refine rdW 12 rfl fun K hK => ?_;simp only [zQ];go_simp;refine hK.out _ _ ?_ fun hS0 => ?_
         ·exact HK.out _ (((KZ.out.setCell (p := Y pp 0) Hpp.out.1 _).setCell (p := Y pp 1) Hpp.out.1 _).setCell (p := Y pp 2) Hpp.out.1 _)
         clear hK K hS0 z0 y0 z1 y1 z2 y2;try simp only [zP]
         have KY : Hid (Kept wr (((wz0.setCell (Y pp 0) (I (add q.ax q.vx))).setCell (Y pp 1) (I (add q.ay q.vy))).setCell (Y pp 2) (I (add q.az q.vz)))) := (((KZ.out.setCell (p := Y pp 0) Hpp.out.1 _).setCell (p := Y pp 1) Hpp.out.1 _).setCell (p := Y pp 2) Hpp.out.1 _);have Gpp : Hid (wr.heap.size ≤ pp ∧ (((wz0.setCell (Y pp 0) (I (add q.ax q.vx))).setCell (Y pp 1) (I (add q.ay q.vy))).setCell (Y pp 2) (I (add q.az q.vz))).heap[pp]? = some (.cells #[I (add q.ax q.vx),I (add q.ay q.vy),I (add q.az q.vz)] 23)) := ⟨Hpp.out.1,(y0d (y0d (y0d Hpp.out.2 _ _) _ _) _ _)⟩;clear KZ Hpp;generalize (((wz0.setCell (Y pp 0) (I (add q.ax q.vx))).setCell (Y pp 1) (I (add q.ay q.vy))).setCell (Y pp 2) (I (add q.az q.vz))) = wz1 at KY Gpp ⊢;have KZ := KY;have Hpp := Gpp;clear KY Gpp;refine wpAnyH_done (by kernel_rfl) ?_ _;go_wp2_with fail
         go_meet
         case rel => exact ⟨pp,rfl,KZ.out,Hpp.out.1,Hpp.out.2⟩
      case rest =>
       clear HK;obtain ⟨r,rfl,k4,hr4,hv4⟩ := hcut;have H8 : Hid (Kept wr wc ∧ wr.heap.size ≤ r ∧ VecAt wc r (add q.ax q.vx) (add q.ay q.vy) (add q.az q.vz)) := ⟨k4,hr4,hv4⟩;clear k4 hr4 hv4;have t0 := H8.out.2.2.off 0; have t1 := H8.out.2.2.off 1; have t2 := H8.out.2.2.off 2;simp only [zR] at t0 t1 t2;go_wp2_with fail
       refine (y0n _ _ _ _ _ (by decide)).mono ?_;rintro e w5 ⟨rfl,k5⟩;simp only [y25];clear t0 t1 t2;have H9 : Hid (Kept wr w5 ∧ VecAt w5 r (add q.ax q.vx) (add q.ay q.vy) (add q.az q.vz)) := ⟨H8.out.1.trans k5,H8.out.2.2.only (Only.of_kept (D := []) k5) (by simp)⟩;clear k5;have e6 := HC.out _ H9.out.1 6 (by omega); have e7 := HC.out _ H9.out.1 7 (by omega); have e8 := HC.out _ H9.out.1 8 (by omega);simp only [bc] at e6 e7 e8;have f6 := y01 H9.out.1 (HO.out.free (j * 17 + 6)); have f7 := y01 H9.out.1 (HO.out.free (j * 17 + 7)); have f8 := y01 H9.out.1 (HO.out.free (j * 17 + 8));go_upto_region 15 with fail
       clear e6 e7 e8 f6 f7 f8;obtain ⟨q',hq'⟩ : ∃ q',q' = atX q (cl 65536000 (add q.ax q.vx)) (cl 65536000 (add q.ay q.vy)) (cl 65536000 (add q.az q.vz)) := ⟨_,rfl⟩;have HQ' : Hid (q' = atX q (cl 65536000 (add q.ax q.vx)) (cl 65536000 (add q.ay q.vy)) (cl 65536000 (add q.az q.vz))) := hq'
       have HA : Hid (RW w1 (some (Y g3 0)) g3 i (upd (mapTo moveB B2 j) j q') (((w5.setCell (Y g3 (j * 17 + 6)) (I (cl 65536000 (add q.ax q.vx)))).setCell (Y g3 (j * 17 + 7)) (I (cl 65536000 (add q.ay q.vy)))).setCell (Y g3 (j * 17 + 8)) (I (cl 65536000 (add q.az q.vz)))) ∧ VecAt (((w5.setCell (Y g3 (j * 17 + 6)) (I (cl 65536000 (add q.ax q.vx)))).setCell (Y g3 (j * 17 + 7)) (I (cl 65536000 (add q.ay q.vy)))).setCell (Y g3 (j * 17 + 8)) (I (cl 65536000 (add q.az q.vz)))) r (add q.ax q.vx) (add q.ay q.vy) (add q.az q.vz) ∧ TouchesAt (((w5.setCell (Y g3 (j * 17 + 6)) (I (cl 65536000 (add q.ax q.vx)))).setCell (Y g3 (j * 17 + 7)) (I (cl 65536000 (add q.ay q.vy)))).setCell (Y g3 (j * 17 + 8)) (I (cl 65536000 (add q.az q.vz)))) b m T ∧ w3.heap.size ≤ (((w5.setCell (Y g3 (j * 17 + 6)) (I (cl 65536000 (add q.ax q.vx)))).setCell (Y g3 (j * 17 + 7)) (I (cl 65536000 (add q.ay q.vy)))).setCell (Y g3 (j * 17 + 8)) (I (cl 65536000 (add q.az q.vz)))).heap.size) := by
        have o5 : Only [g3] wr (((w5.setCell (Y g3 (j * 17 + 6)) (I (cl 65536000 (add q.ax q.vx)))).setCell (Y g3 (j * 17 + 7)) (I (cl 65536000 (add q.ay q.vy)))).setCell (Y g3 (j * 17 + 8)) (I (cl 65536000 (add q.az q.vz)))) := ((((Only.of_kept H9.out.1).setCell (p := Y g3 (j * 17 + 6)) (Or.inl (by simp)) _).setCell (p := Y g3 (j * 17 + 7)) (Or.inl (by simp)) _).setCell (p := Y g3 (j * 17 + 8)) (Or.inl (by simp)) _);have h1 := (HO.out.only (Only.of_kept (D := []) H9.out.1) (by simp)).putAt hj (cl 65536000 (add q.ax q.vx)) (cl 65536000 (add q.ay q.vy)) (cl 65536000 (add q.az q.vz));rw [HQ.out.2,← hq'] at h1;have hg := HO.out.lt;refine ⟨HR.out.1.turn rfl h1 o5,?_,HR.out.2.1.onlyD o5 (fun gb o s e => (HTB.out gb o s e).1),Nat.le_trans HR.out.2.2 o5.size⟩;exact H9.out.2.only (D := [g3]) (((((Only.refl [g3] w5).setCell (p := Y g3 (j * 17 + 6)) (Or.inl (by simp)) _).setCell (p := Y g3 (j * 17 + 7)) (Or.inl (by simp)) _).setCell (p := Y g3 (j * 17 + 8)) (Or.inl (by simp)) _)) (by have := H8.out.2.1; simp only [zrc]; omega)
       clear hq' H8 H9 HC HO;generalize (((w5.setCell (Y g3 (j * 17 + 6)) (I (cl 65536000 (add q.ax q.vx)))).setCell (Y g3 (j * 17 + 7)) (I (cl 65536000 (add q.ay q.vy)))).setCell (Y g3 (j * 17 + 8)) (I (cl 65536000 (add q.az q.vz)))) = w6 at HA ⊢;have HO6 : Hid (OwnB w6 g3 i (upd (mapTo moveB B2 j) j q')) := (HA.out.1.there hj).2;have HC6 : Hid (∀ w',Only [] w6 w' → ∀ k,k < 17 → w'.cell? (Y g3 (j * 17 + k)) = some (bc q' k)) := fun w' o k hk => by have h1 := (HO6.out.only o (by simp)).cell hj hk; rw [y0s] at h1; exact h1
       have HC7 : Hid (q'.vx = q.vx ∧ q'.vy = q.vy ∧ q'.vz = q.vz ∧ q'.ax = cl 65536000 (add q.ax q.vx) ∧ q'.ay = cl 65536000 (add q.ay q.vy) ∧ q'.az = cl 65536000 (add q.az q.vz)) := by rw [HQ'.out]; exact ⟨rfl,rfl,rfl,rfl,rfl,rfl⟩
       have HK6 : Hid (∀ w',Kept w6 w' → Kept w6 w' ∧ SvC g3 j r q w') := fun w' o => by
        have hc := HC6.out w' (Only.of_kept o);have h6 := hc 6 (by omega); have h7 := hc 7 (by omega); have h8 := hc 8 (by omega); have h9 := hc 9 (by omega); have h10 := hc 10 (by omega); have h11 := hc 11 (by omega);simp only [bc] at h6 h7 h8 h9 h10 h11;obtain ⟨c1,c2,c3,c4,c5,c6⟩ := HC7.out;rw [c4] at h6; rw [c5] at h7; rw [c6] at h8; rw [c1] at h9; rw [c2] at h10; rw [c3] at h11;have hv := HA.out.2.1.only (Only.of_kept (D := []) o) (by simp);exact ⟨o,h6,h7,h8,h9,h10,h11,hv.off 0,hv.off 1,hv.off 2⟩
       refine wp_region_held_drew (S := (fun w' => Kept w6 w' ∧ Zc w' g3 (j * 17 + 6) (cl 65536000 (add q.ax q.vx)) ∧ Zc w' g3 (j * 17 + 7) (cl 65536000 (add q.ay q.vy)) ∧ Zc w' g3 (j * 17 + 8) (cl 65536000 (add q.az q.vz)) ∧ Zc w' g3 (j * 17 + 9) q.vx ∧ Zc w' g3 (j * 17 + 10) q.vy ∧ Zc w' g3 (j * 17 + 11) q.vz ∧ Zc w' r 0 (add q.ax q.vx) ∧ Zc w' r 1 (add q.ay q.vy) ∧ Zc w' r 2 (add q.az q.vz))) (by kernel_rfl) ?_ (fun hJ1 => ?_)
       ·exact HK6.out _ (Kept.refl w6).drew
       refine tkU 0 (h:=tkU 1 (h:=tkU 2 (h:=tkV 3 ?_)));try simp only [zP]
       refine tkU 4 (h:=tkU 6 (h:=tkU 8 (h:=tkV 9 ?_)));try simp only [zP]
       refine tkU 10 (h:=tkU 11 (h:=tkV 12 ?_));try simp only [zP]
       refine rdW 5 rfl fun K hK => ?_;simp only [zQ];go_simp
       (go_at_call 52; refine (y2t _ _ _ _).mono ?_; rintro e w7 ⟨b1,rfl,k7,hb1,hr1⟩; have H11 : Hid (Kept w6 w7 ∧ w6.heap.size ≤ b1 ∧ I3 w7 b1 q.vx q.vy q.vz) := ⟨(Kept.refl w6).drew.trans k7,hb1,hr1⟩; clear k7 hb1 hr1)
       try go_wp2_with fail
       refine hK.out _ _ ?_ fun hJ2 => ?_
       ·exact HK6.out _ H11.out.1
       clear hK K hJ1;try simp only [zP]
       refine rdW 7 rfl fun K hK => ?_;simp only [zQ];go_simp
       (go_at_call 52; refine (y2t _ _ _ _).mono ?_; rintro e w8 ⟨b2,rfl,k8,hb2,hr2⟩; have H12 : Hid (Kept w6 w8 ∧ b1 < b2 ∧ I3 w8 b1 q.vx q.vy q.vz ∧ I3 w8 b2 (add q.ax q.vx) (add q.ay q.vy) (add q.az q.vz)) := ⟨H11.out.1.trans k8,Nat.lt_of_lt_of_le H11.out.2.2.lt hb2,H11.out.2.2.only (Only.of_kept (D := []) k8) (by simp),hr2⟩; clear k8 hb2 hr2)
       try go_wp2_with fail
       refine hK.out _ _ ?_ fun hJ3 => ?_
       ·exact HK6.out _ H12.out.1
       clear hK K hJ2;try simp only [zP]
       refine rdW 13 rfl fun K hK => ?_;simp only [zQ];go_simp
       (go_at_call 52; refine (y2t _ _ _ _).mono ?_; rintro e w9 ⟨b3,rfl,k9,hb3,hr3⟩; have H13 : Hid (Kept w6 w9 ∧ b2 < b3 ∧ I3 w9 b1 q.vx q.vy q.vz ∧ I3 w9 b2 (add q.ax q.vx) (add q.ay q.vy) (add q.az q.vz) ∧ I3 w9 b3 (cl 65536000 (add q.ax q.vx)) (cl 65536000 (add q.ay q.vy)) (cl 65536000 (add q.az q.vz))) := ⟨H12.out.1.trans k9,Nat.lt_of_lt_of_le H12.out.2.2.2.lt hb3,H12.out.2.2.1.only (Only.of_kept (D := []) k9) (by simp),H12.out.2.2.2.only (Only.of_kept (D := []) k9) (by simp),hr3⟩; clear k9 hb3 hr3)
       try go_wp2_with fail
       refine hK.out _ _ ?_ fun hJ4 => ?_
       ·exact HK6.out _ H13.out.1
       clear hK K hJ3;try simp only [zP]
       refine tkU 14 (h:=tkU 15 (h:=tkV 16 ?_));try simp only [zP]
       refine wpAnyH_done (by kernel_rfl) ?_ _;clear hJ4 HK6 HC7
       have HB : Hid (b1 ≠ b2 ∧ b1 ≠ b3 ∧ g3 ≠ b1 ∧ w6.heap.size ≤ b1) := by
        have h1 := H11.out.2.1; have h2 := H12.out.2.1; have h3 := H13.out.2.1; have h4 := HO6.out.lt;exact ⟨by omega,by omega,by omega,h1⟩
       have HA9 : Hid (RW w1 (some (Y g3 0)) g3 i (upd (mapTo moveB B2 j) j q') w9 ∧ TouchesAt w9 b m T ∧ w3.heap.size ≤ w9.heap.size) := ⟨HA.out.1.keep (Only.of_kept H13.out.1),HA.out.2.2.1.only (Only.of_kept H13.out.1),Nat.le_trans HA.out.2.2.2 H13.out.1.below.size⟩;have HI : Hid (I3 w9 b1 q.vx q.vy q.vz ∧ I3 w9 b2 (add q.ax q.vx) (add q.ay q.vy) (add q.az q.vz) ∧ I3 w9 b3 (cl 65536000 (add q.ax q.vx)) (cl 65536000 (add q.ay q.vy)) (cl 65536000 (add q.az q.vz))) := ⟨H13.out.2.2.1,H13.out.2.2.2.1,H13.out.2.2.2.2⟩;have HSZ : Hid (w1.heap.size ≤ b1 ∧ w3.heap.size ≤ b1) := ⟨by have h1 := HA.out.1.only.size; have := HB.out.2.2.2; omega,by have h1 := HA.out.2.2.2; have := HB.out.2.2.2; omega⟩;clear H11 H12 H13 HA HO6 HC6;go_wp2_with fail
       go_loopg [102] 3 (fun k idx wr => ∃ l : Nat,idx = I (l : Int) ∧ Hid (l ≤ 3 ∧ k = 3 - l) ∧ Hid (MvI wr b1 l q ∧ Only [b1] w9 wr))
       case atStart => exact ⟨0,rfl,⟨by omega,rfl⟩,by unfold MvI; rw [yc6,yc6,yc6]; exact HI.out.1,Only.refl _ _⟩
       case round =>
        obtain ⟨l,rfl,H14,HV⟩ := hrel;by_cases hl : l < 3
        ·have hll : (l : Int) < 3 := by omega
         have c1 := HV.out.1.at hl;have f1 := HV.out.1.free l;have c2 := (HI.out.2.1.only HV.out.2 (by simp only [zrc]; exact fun e => HB.out.1 e.symm)).at hl;have c3 := (HI.out.2.2.only HV.out.2 (by simp only [zrc]; exact fun e => HB.out.2.1 e.symm)).at hl;generalize sel3 (mvS l 0 _ _ _) _ _ l = u1 at c1;obtain ⟨u2,hu2⟩ : ∃ u,u = sel3 (add q.ax q.vx) (add q.ay q.vy) (add q.az q.vz) l := ⟨_,rfl⟩;obtain ⟨u3,hu3⟩ : ∃ u,u = sel3 (cl 65536000 (add q.ax q.vx)) (cl 65536000 (add q.ay q.vy)) (cl 65536000 (add q.az q.vz)) l := ⟨_,rfl⟩;rw [← hu2] at c2;rw [← hu3] at c3;have HU : Hid (u2 = sel3 (add q.ax q.vx) (add q.ay q.vy) (add q.az q.vz) l ∧ u3 = sel3 (cl 65536000 (add q.ax q.vx)) (cl 65536000 (add q.ay q.vy)) (cl 65536000 (add q.az q.vz)) l) := ⟨hu2,hu3⟩;clear hu2 hu3;by_cases he : u2 = u3
         ·have HE : Hid (MvI wr b1 (l + 1) q) := HV.out.1.same hl (by rw [← HU.out.1,← HU.out.2]; exact he)
          have hbe : (u2 == u3) = true := by simp [he]
          clear he;go_wp2_with fail
          go_quiet (fail)
          go_wp2_with fail
          go_roundg (3 - (l + 1))
          case measure => have := H14.out.2; omega
          case rel => exact ⟨l + 1,by go_num,⟨by omega,rfl⟩,HE.out.only (Only.drewN (D := []) _ _) (by simp),HV.out.2.trans (Only.drewN _ _)⟩
         ·have HE : Hid (∀ N,MvI ((wr.drewN N).setCell (Y b1 l) (I 0)) b1 (l + 1) q) := fun N => MvI.gone (HV.out.1.only (Only.drewN (D := []) _ _) (by simp)) hl (by rw [← HU.out.1,← HU.out.2]; exact he)
          have hbe : (u2 == u3) = false := by simp [he]
          clear he;go_wp2_with fail
          go_quiet (fail)
          go_wp2_with fail
          go_roundg (3 - (l + 1))
          case measure => have := H14.out.2; omega
          case rel => exact ⟨l + 1,by go_num,⟨by omega,rfl⟩,HE.out _,(HV.out.2.trans (Only.drewN _ _)).setCell (p := Y b1 l) (Or.inl (by simp)) _⟩
        ·have hll : ¬ (l : Int) < 3 := by omega
         obtain rfl : l = 3 := by have := H14.out.1; omega
         have HA10 : Hid (RW w1 (some (Y g3 0)) g3 i (upd (mapTo moveB B2 j) j q') wr ∧ TouchesAt wr b m T ∧ w3.heap.size ≤ wr.heap.size) := ⟨HA9.out.1.apart HV.out.2 (by simp only [zrc]; exact HB.out.2.2.1) (fun b hb => by simp only [zrc] at hb; rw [hb]; exact HSZ.out.1),HA9.out.2.1.onlyD HV.out.2 (fun gb o s e => by have := (HTB.out gb o s e).2; have := HSZ.out.2; simp only [zrc]; omega),Nat.le_trans HA9.out.2.2 HV.out.2.size⟩;go_wp2_with fail
         refine (y3r b1 _ _ _ wr HV.out.1.row).mono ?_;rintro e wo ⟨rfl,ko⟩;have HA11 : Hid (RW w1 (some (Y g3 0)) g3 i (upd (mapTo moveB B2 j) j q') wo ∧ TouchesAt wo b m T ∧ w3.heap.size ≤ wo.heap.size) := ⟨HA10.out.1.keep (Only.of_kept ko),HA10.out.2.1.only (Only.of_kept ko),Nat.le_trans HA10.out.2.2 ko.below.size⟩;clear ko HA10 HA9 HV HI;obtain ⟨s0,hs0⟩ : ∃ s,s = mvS 3 0 (add q.ax q.vx) (cl 65536000 (add q.ax q.vx)) q.vx := ⟨_,rfl⟩;obtain ⟨s1,hs1⟩ : ∃ s,s = mvS 3 1 (add q.ay q.vy) (cl 65536000 (add q.ay q.vy)) q.vy := ⟨_,rfl⟩;obtain ⟨s2,hs2⟩ : ∃ s,s = mvS 3 2 (add q.az q.vz) (cl 65536000 (add q.az q.vz)) q.vz := ⟨_,rfl⟩;rw [← hs0,← hs1,← hs2];have HMV : Hid (spX q' s0 s1 s2 = moveB q) := by show _ = _; rw [hs0,hs1,hs2,HQ'.out]; exact moveB_is q
         clear hs0 hs1 hs2;have HO11 : Hid (OwnB wo g3 i (upd (mapTo moveB B2 j) j q')) := (HA11.out.1.there hj).2;have e9 := HO11.out.cell hj (show 9 < 17 by omega); have e10 := HO11.out.cell hj (show 10 < 17 by omega); have e11 := HO11.out.cell hj (show 11 < 17 by omega);rw [y0s] at e9 e10 e11;simp only [bc] at e9 e10 e11;have f9 := HO11.out.free (j * 17 + 9); have f10 := HO11.out.free (j * 17 + 10); have f11 := HO11.out.free (j * 17 + 11);go_wp2_with fail
         clear e9 e10 e11 f9 f10 f11
         have HFN : Hid (RW w1 (some (Y g3 0)) g3 i (mapTo moveB B2 (j + 1)) (((wo.setCell (Y g3 (j * 17 + 9)) (I s0)).setCell (Y g3 (j * 17 + 10)) (I s1)).setCell (Y g3 (j * 17 + 11)) (I s2)) ∧ TouchesAt (((wo.setCell (Y g3 (j * 17 + 9)) (I s0)).setCell (Y g3 (j * 17 + 10)) (I s1)).setCell (Y g3 (j * 17 + 11)) (I s2)) b m T ∧ w3.heap.size ≤ (((wo.setCell (Y g3 (j * 17 + 9)) (I s0)).setCell (Y g3 (j * 17 + 10)) (I s1)).setCell (Y g3 (j * 17 + 11)) (I s2)).heap.size) := by
          have o5 : Only [g3] wo (((wo.setCell (Y g3 (j * 17 + 9)) (I s0)).setCell (Y g3 (j * 17 + 10)) (I s1)).setCell (Y g3 (j * 17 + 11)) (I s2)) := ((((Only.refl [g3] wo).setCell (p := Y g3 (j * 17 + 9)) (Or.inl (by simp)) _).setCell (p := Y g3 (j * 17 + 10)) (Or.inl (by simp)) _).setCell (p := Y g3 (j * 17 + 11)) (Or.inl (by simp)) _);have h1 := HO11.out.putSp hj s0 s1 s2;rw [y0s,y2x,HMV.out] at h1;rw [y3j,HQ.out.1];exact ⟨HA11.out.1.turn rfl h1 o5,HA11.out.2.1.onlyD o5 (fun gb o s e => (HTB.out gb o s e).1),Nat.le_trans HA11.out.2.2 o5.size⟩
         generalize (((wo.setCell (Y g3 (j * 17 + 9)) (I s0)).setCell (Y g3 (j * 17 + 10)) (I s1)).setCell (Y g3 (j * 17 + 11)) (I s2)) = wp at HFN ⊢;go_roundg (i - (j + 1))
         case measure => have := H6.out.2; omega
         case rel => exact ⟨j + 1,by go_num,⟨by omega,rfl⟩,HFN⟩
     ·have hjl : ¬ (j : Int) < (i : Int) := by omega
      obtain rfl : j = i := by have := H6.out.1; omega
      go_wp2_with fail
      refine (y63 a3 b j c3 m d (mapTo moveB B2 j) T wr HW.out.2.1 HM.out HR.out.1.own.bodies H5.out.2.2.1 HR.out.2.1).mono ?_;rintro e w7 ⟨a7,g7,c7,rfl,hO7,o7,hg7,hs7,hc7⟩;have H7 : Hid (RfW E w0 x g c a j cap la (st + 1) B wr) := H1.out.keep HR.out.1.only;have f7 := (H7.out.wa.only o7 (by simp)).free 7;have l7 := (H7.out.wa.only o7 (by simp)).off 7;simp only [zR] at l7;go_wp2_with fail
      clear f7 l7;refine bodyPost_end (results_none rfl _ _ _) rfl ?_;refine ⟨rfl,?_⟩;rw [HSTEP.out];by_cases h0 : j = 0
      ·exact ⟨g,a7,c7,H7.out.empty o7 h0 hs7 hc7⟩
      ·exact ⟨g7,a7,c7,H7.out.regrow o7 hO7 hg7 (hO7.lt h0) hs7 hc7⟩
end Go.Proofs.YtbenlgandjjopaaGreatDoor
