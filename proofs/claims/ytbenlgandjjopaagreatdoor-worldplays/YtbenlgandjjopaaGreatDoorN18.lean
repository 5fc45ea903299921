/- . -/
import Derived.Test.YtbenlgandjjopaaGreatDoorN17
open Go.Value renaming int → J
open Go.IntKind renaming i64 → U
open List renaming mem_singleton → zrc,mem_cons → zrd
namespace Go.Proofs.YtbenlgandjjopaaGreatDoor
set_option maxRecDepth 100000
set_option maxHeartbeats 2000000
open Go.ChangeShapes Go.WideShapes Go.ChangeAt Go.RowKit
set_option linter.unusedVariables false
set_option linter.unusedSimpArgs false
variable {w w' w6 : World} {L L' : List Lf} {i fat : Int} {t m : Nat} {D : List Nat} {x y : Lf} {lv : Option Nat} {q : Bx} {v : Value} {ps : List MemPlace} {k e : TypeId}
def mapTo (f : Bd → Bd) (B : Nat → Bd) (p : Nat) : Nat → Bd := fun j => if j < p then f (B j) else B j
theorem y50 (f : Bd → Bd) (B : Nat → Bd) : mapTo f B 0 = B := by funext j; simp [mapTo]
theorem y7l (f : Bd → Bd) (B : Nat → Bd) (p : Nat) : mapTo f B p p = B p := by simp [mapTo]
theorem y3j (f : Bd → Bd) (B : Nat → Bd) (p : Nat) : mapTo f B (p + 1) = upd (mapTo f B p) p (f (B p)) := by
 funext j
 unfold mapTo upd;by_cases e : j = p
 ·subst e; simp
 ·by_cases h : j < p
  ·simp [e,h,show j < p + 1 by omega]
  ·simp [e,h,show ¬ j < p + 1 by omega]
structure EW (w : World) (x g : Nat) (c : Wc) (a : Option Addr) (n cap t : Nat) (la st : Int) (C : Nat → Bd) (wr : World) : Prop where
 wa : WorldAt wr x c a n cap t la st
 own : OwnS wr a g n C
 only : Only [g] w wr
theorem y8h (x g : Nat) (c : Wc) (a : Option Addr) (n cap t : Nat) (la st : Int) (B : Nat → Bd) (w : World) (hn : n ≤ 60) (hw : WorldAt w x c a n cap t la st) (h : OwnS w a g n B) (hxg : n ≠ 0 → x ≠ g) :
  Calls Tryz.prog 45 #[.pointer (some (Y x 0)),.func (.func 46) #[.pointer (some (Y x 0))] #[]] w fun e w' => e = .returned (.tuple #[]) ∧ EW w x g c a n cap t la st (mapTo (driveB c) B n) w' := by
 have HB : Hid (n ≤ 60 ∧ (n ≠ 0 → x ≠ g)) := ⟨hn,hxg⟩;have H0 : Hid (EW w x g c a n cap t la st B w) := ⟨hw,h,Only.refl _ _⟩;have s7 := hw.off 7;simp only [zR] at s7;clear hn hxg h hw;go_enter Tryz.func45,Tryz.ntmps45
 go_wp2_with fail
 clear s7;go_loopg [10] n (fun k idx wr => ∃ i : Nat,idx = I (i : Int) ∧ Hid (i ≤ n ∧ k = n - i) ∧ Hid (EW w x g c a n cap t la st (mapTo (driveB c) B i) wr))
 case atStart => exact ⟨0,rfl,⟨by omega,rfl⟩,by rw [y50]; exact H0⟩
 case round =>
  clear H0;obtain ⟨i,rfl,H1,HE⟩ := hrel;have hn := HB.out.1;by_cases hi : i < n
  ·have hil : (i : Int) < (n : Int) := by omega
   obtain ⟨ha,hO⟩ : a = some (Y g 0) ∧ OwnB wr g n (mapTo (driveB c) B i) := by
    rcases HE.out.own with q | q
    ·omega
    ·exact q
   subst ha;have HOO : Hid (OwnB wr g n (mapTo (driveB c) B i)) := hO;clear hO;have s7 := HE.out.wa.off 7;simp only [zR] at s7;go_wp2_with fail
   refine (show Calls Tryz.prog 46 #[.pointer (some (Y x 0)),.pointer (some (Y g (i * 17)))] wr _ from yg5 x g n i c (some (Y g 0)) n cap t la st (mapTo (driveB c) B i) wr HE.out.wa HOO.out hi hn (HB.out.2 (by omega))).mono ?_;rintro e w2 ⟨rfl,hO2,o2⟩
   have H2 : Hid (EW w x g c (some (Y g 0)) n cap t la st (mapTo (driveB c) B (i + 1)) w2) :=
    ⟨HE.out.wa.only o2 (by simp only [zrc]; exact HB.out.2 (by omega)),Or.inr ⟨rfl,by rw [y3j,← y7l (driveB c) B i]; exact hO2⟩,HE.out.only.trans o2⟩
   clear hO2 o2 s7;go_wp2_with fail
   go_roundg (n - (i + 1))
   case measure => have := H1.out.2; omega
   case rel => exact ⟨i + 1,by go_num,⟨by omega,rfl⟩,H2⟩
  ·have hil : ¬ (i : Int) < (n : Int) := by omega
   obtain rfl : i = n := by have := H1.out.1; omega
   go_wp2_with fail
   refine bodyPost_end (results_none rfl _ _ _) rfl ?_;exact ⟨rfl,HE.out⟩
theorem y9m (x g : Nat) (c : Wc) (a : Option Addr) (n cap t : Nat) (la st : Int) (B : Nat → Bd) (w : World) (hn : n ≤ 60) (hw : WorldAt w x c a n cap t la st) (h : OwnS w a g n B) (hxg : n ≠ 0 → x ≠ g) :
  Calls Tryz.prog 45 #[.pointer (some (Y x 0)),.func (.func 48) #[] #[]] w fun e w' => e = .returned (.tuple #[]) ∧ EW w x g c a n cap t la st (mapTo (moveB) B n) w' := by
 have HB : Hid (n ≤ 60 ∧ (n ≠ 0 → x ≠ g)) := ⟨hn,hxg⟩;have H0 : Hid (EW w x g c a n cap t la st B w) := ⟨hw,h,Only.refl _ _⟩;have s7 := hw.off 7;simp only [zR] at s7;clear hn hxg h hw;go_enter Tryz.func45,Tryz.ntmps45
 go_wp2_with fail
 clear s7;go_loopg [10] n (fun k idx wr => ∃ i : Nat,idx = I (i : Int) ∧ Hid (i ≤ n ∧ k = n - i) ∧ Hid (EW w x g c a n cap t la st (mapTo (moveB) B i) wr))
 case atStart => exact ⟨0,rfl,⟨by omega,rfl⟩,by rw [y50]; exact H0⟩
 case round =>
  clear H0;obtain ⟨i,rfl,H1,HE⟩ := hrel;have hn := HB.out.1;by_cases hi : i < n
  ·have hil : (i : Int) < (n : Int) := by omega
   obtain ⟨ha,hO⟩ : a = some (Y g 0) ∧ OwnB wr g n (mapTo (moveB) B i) := by
    rcases HE.out.own with q | q
    ·omega
    ·exact q
   subst ha;have HOO : Hid (OwnB wr g n (mapTo (moveB) B i)) := hO;clear hO;have s7 := HE.out.wa.off 7;simp only [zR] at s7;go_wp2_with fail
   refine (show Calls Tryz.prog 48 #[.pointer (some (Y g (i * 17)))] wr _ from yi1 g n i (mapTo moveB B i) wr HOO.out hi hn).mono ?_;rintro e w2 ⟨rfl,hO2,o2⟩
   have H2 : Hid (EW w x g c (some (Y g 0)) n cap t la st (mapTo (moveB) B (i + 1)) w2) :=
    ⟨HE.out.wa.only o2 (by simp only [zrc]; exact HB.out.2 (by omega)),Or.inr ⟨rfl,by rw [y3j,← y7l (moveB) B i]; exact hO2⟩,HE.out.only.trans o2⟩
   clear hO2 o2 s7;go_wp2_with fail
   go_roundg (n - (i + 1))
   case measure => have := H1.out.2; omega
   case rel => exact ⟨i + 1,by go_num,⟨by omega,rfl⟩,H2⟩
  ·have hil : ¬ (i : Int) < (n : Int) := by omega
   obtain rfl : i = n := by have := H1.out.1; omega
   go_wp2_with fail
   refine bodyPost_end (results_none rfl _ _ _) rfl ?_;exact ⟨rfl,HE.out⟩
open Go.Maps (Keyed)
def nodeElem : Value → Option (DataW Unit × List MemPlace)
 | .pointer none => some (.nil,[])
 | .pointer (some ⟨b,0,none⟩) => some (.lit (.int .i64 b),[])
 | _ => none
theorem y65 {b : Nat} (h : nodeElem v = some (.lit (.int .i64 b),ps)) : v = .pointer (some (Y b 0)) := by
 unfold nodeElem at h;split at h
 ·cases h
 ·simp only [Option.some.injEq,Prod.mk.injEq,DataW.lit.injEq,Lit.int.injEq,true_and] at h
  have := Int.ofNat.inj h.1;rw [this]
 ·cases h
theorem ycr (h : nodeElem v = some (.nil,ps)) : v = .pointer none := by
 unfold nodeElem at h;split at h
 ·rfl
 ·cases h
 ·cases h
@[reducible] def key (i : Int) : Lit := .int .i64 i
theorem y87 {j : Int} (h : i ≠ j) : key i ≠ key j := fun e => h (by injection e)
theorem keyLit (i : Int) : WideAt.IsKeyLit (key i) := trivial
structure Book (D : DataW Unit) (L : List Lf) : Prop where
 tidy : Maps.Tidy D
 nodup : (L.map Lf.id).Nodup
 there : ∀ x ∈ L,D.atKey (key x.id) .nil = .lit (.int .i64 x.b)
 has : ∀ i,Maps.has D (key i) = true ↔ i ∈ L.map Lf.id
 size : Maps.size D = L.length
theorem Book.perm {D : DataW Unit} (h : Book D L) (p : L.Perm L') : Book D L' :=
 ⟨h.tidy,(p.map _).nodup h.nodup,fun x hx => h.there x (p.mem_iff.2 hx),fun i => (h.has i).trans (p.map _).mem_iff,h.size.trans p.length_eq⟩
theorem Book.gone {D : DataW Unit} (h : Book D L) (hi : i ∉ L.map Lf.id) : Maps.has D (key i) = false := by
 cases hh : Maps.has D (key i)
 ·rfl
 ·exact absurd ((h.has i).1 hh) hi
theorem Book.empty : Book (.map []) [] := ⟨Maps.tidy_empty,by simp,by simp,fun i => by simp [Maps.has],rfl⟩
theorem Book.put {D : DataW Unit} {L : List Lf} (h : Book D L) {x : Lf} (hx : x.id ∉ L.map Lf.id) : Book (D.put (key x.id) (.lit (.int .i64 x.b))) (x :: L) := by
 refine ⟨h.tidy.put (keyLit _) _,by simp only [List.map_cons,List.nodup_cons]; exact ⟨hx,h.nodup⟩,fun y hy => ?_,fun i => ?_,?_⟩
 ·rcases zrd.1 hy with rfl | hy
  ·exact Maps.atKey_put_same h.tidy.isMap (keyLit _) _ _
  ·rw [Maps.atKey_put_other (y87 (fun e => hx (by rw [← e]; exact List.mem_map_of_mem hy)))]; exact h.there y hy
 ·by_cases e : i = x.id
  ·subst e; simp [Maps.has_put_same h.tidy.isMap (keyLit _)]
  ·rw [Maps.has_put_other (y87 e),h.has i]; simp [e]
 ·rw [Maps.size_put h.tidy,h.gone hx]; simp [h.size]
theorem Book.del {D : DataW Unit} {L : List Lf} {x : Lf} (h : Book D (x :: L)) : Book (D.del (key x.id)) L := by
 have hn := h.nodup;simp only [List.map_cons,List.nodup_cons] at hn;have ne : ∀ y ∈ L,y.id ≠ x.id := fun y hy e => hn.1 (by rw [← e]; exact List.mem_map_of_mem hy);refine ⟨h.tidy.del _,hn.2,fun y hy => ?_,fun i => ?_,?_⟩
 ·rw [Maps.atKey_del_other (y87 (ne y hy))]; exact h.there y (List.mem_cons_of_mem _ hy)
 ·by_cases e : i = x.id
  ·subst e; rw [Maps.has_del_same]; simp only [Bool.false_eq_true,false_iff]; exact hn.1
  ·rw [Maps.has_del_other (y87 e),h.has i]; simp [e]
 ·have s := Maps.size_del (k := key x.id) h.tidy
  rw [(h.has x.id).2 (by simp),h.size] at s;simp only [if_true,List.length_cons] at s;omega
theorem Book.swap {D : DataW Unit} (h : Book D (x :: L)) (e : y.id = x.id) : Book (D.put (key y.id) (.lit (.int .i64 y.b))) (y :: L) := by
 have hn := h.nodup;simp only [List.map_cons,List.nodup_cons] at hn;refine ⟨h.tidy.put (keyLit _) _,by simp only [List.map_cons,List.nodup_cons,e]; exact hn,fun z hz => ?_,fun i => ?_,?_⟩
 ·rcases zrd.1 hz with rfl | hz
  ·exact Maps.atKey_put_same h.tidy.isMap (keyLit _) _ _
  ·rw [Maps.atKey_put_other (y87 (fun q => hn.1 (by rw [← e,← q]; exact List.mem_map_of_mem hz)))]; exact h.there z (List.mem_cons_of_mem _ hz)
 ·by_cases q : i = y.id
  ·subst q; simp [Maps.has_put_same h.tidy.isMap (keyLit _)]
  ·rw [Maps.has_put_other (y87 q),h.has i]; simp [e]
 ·rw [Maps.size_put h.tidy,(h.has y.id).2 (by simp [e])]; simp [h.size]
theorem Book.box {D : DataW Unit} (h : Book D (x :: L)) (e : y.id = x.id) (eb : y.b = x.b) : Book D (y :: L) := by
 refine ⟨h.tidy,by simpa [e] using h.nodup,fun z hz => ?_,fun i => by simpa [e] using h.has i,by simpa using h.size⟩;rcases zrd.1 hz with rfl | hz
 ·rw [e,eb]; exact h.there x (by simp)
 ·exact h.there z (List.mem_cons_of_mem _ hz)
theorem intKey : Keyed Tryz.prog 3 := Maps.int_keyed Tryz.underlying3
theorem zeroPtr (w : World) : (zeroValue 110).run Tryz.prog w = .ok (.pointer none) w := by kernel_rfl
def In64 (i : Int) : Prop := (Lit.int .i64 i).wf = true
theorem keyIs (h : In64 i) : keyOf Tryz.prog 3 (I i) = some (key i) := Maps.keyOf_int_mk Tryz.underlying3 h
def MapIs (w : World) : Option Nat → List Lf → Prop
 | none,L => L = []
 | some m,L => ∃ MD : DataW Unit,w.ownsMap Tryz.prog 3 nodeElem m L.length MD ∧ Book MD L
theorem MapIs.only (o : Only D w w') (s : ∀ m ∈ lv.toList,m ∉ D) (h : MapIs w lv L) : MapIs w' lv L := by
 cases lv with
 | none => exact h
 | some m =>
  obtain ⟨MD,h1,h2⟩ := h;have hlt := h1.lt;obtain ⟨es,clock,hb,r⟩ := h1;exact ⟨MD,⟨es,clock,(o.block m hlt (s m (by simp))).trans hb,r⟩,h2⟩
theorem MapIs.perm {w : World} {lv : Option Nat} {L L' : List Lf} (h : MapIs w lv L) (p : L.Perm L') : MapIs w lv L' := by
 cases lv with
 | none => simp only [MapIs] at h ⊢; subst h; exact List.nil_perm.1 p
 | some m => obtain ⟨MD,h1,h2⟩ := h; exact ⟨MD,by rw [← p.length_eq]; exact h1,h2.perm p⟩
theorem y5d {n : Nat} {MD : DataW Unit} (h : w.ownsMap Tryz.prog 3 nodeElem m n MD) (b : Book MD L) : w.ownsMap Tryz.prog 3 nodeElem m L.length MD := by
 obtain ⟨es,clock,hb,F,hs,rfl⟩ := h;refine ⟨es,clock,hb,F,?_,rfl⟩;have := b.size;simp only [Maps.size,length_sorted,List.length_map,Array.length_toList] at this;omega
theorem MapIs.look_none (h : MapIs w lv L) (hi : In64 i) (hn : i ∉ L.map Lf.id) : (Instr.lookup 111 (.map lv) (I i) true).run Tryz.prog w = .ok (.tuple #[.pointer none,.bool false]) w := by
 cases lv with
 | none => exact Maps.look_nil true intKey Tryz.underlying111 (zeroPtr w) (keyIs hi)
 | some m =>
  obtain ⟨MD,h1,h2⟩ := h;obtain ⟨v,ps,hr,hv⟩ := h1.look_ok intKey Tryz.underlying111 (zeroPtr w) (zd := .nil) (zp := []) rfl (keyIs hi);have hf := h2.gone hn;rw [Maps.atKey_of_not_has hf] at hv;rw [hr,hf,ycr hv]
theorem MapIs.look_some (h : MapIs w lv L) (hi : In64 x.id) (hx : x ∈ L) : (Instr.lookup 111 (.map lv) (I x.id) true).run Tryz.prog w = .ok (.tuple #[.pointer (some (Y x.b 0)),.bool true]) w := by
 cases lv with
 | none => simp only [MapIs] at h; subst h; simp at hx
 | some m =>
  obtain ⟨MD,h1,h2⟩ := h;obtain ⟨v,ps,hr,hv⟩ := h1.look_ok intKey Tryz.underlying111 (zeroPtr w) (zd := .nil) (zp := []) rfl (keyIs hi);rw [h2.there x hx] at hv;rw [hr,(h2.has x.id).2 (List.mem_map_of_mem hx),y65 hv]
theorem MapIs.len {w : World} {lv : Option Nat} {L : List Lf} (h : MapIs w lv L) (ty : TypeId) : (Builtin.len_ #[111] ty #[.map lv]).run Tryz.prog w = .ok (I L.length) w := by
 cases lv with
 | none => simp only [MapIs] at h; subst h; exact Maps.len_nil Tryz.underlying111 ty
 | some m =>
  obtain ⟨MD,h1,h2⟩ := h;rw [h1.len Tryz.underlying111 ty,h2.size]
structure Whole (w : World) (t : Nat) (fat : Int) (T : Option Tr) (lv : Option Nat) : Prop where
 tree : TreeAt w t fat (rootO T) lv
 inn : InO w T
 fits : ∀ x ∈ leavesO T,withinX x.box x.room = true
 book : MapIs w lv (leavesO T)
 nodup : (t :: (lv.toList ++ blocksO T)).Nodup
def boxesOf (L : List Lf) : List (Int × Bx) := L.map fun x => (x.id,x.box)
structure TreeIs (w : World) (t : Nat) (fat : Int) (D : List Nat) (M : List (Int × Bx)) : Prop where
 ex : ∃ T lv,Whole w t fat T lv ∧ D = t :: (lv.toList ++ blocksO T) ∧ M.Perm (boxesOf (leavesO T))
 fat0 : 0 ≤ fat ∧ fat ≤ 3276800
 small : M.length ≤ 60
 keys : (M.map Prod.fst).Nodup
 ids : ∀ p ∈ M,In64 p.1
theorem Whole.only {D : List Nat} {w w' : World} {t : Nat} {fat : Int} {T : Option Tr} {lv : Option Nat} (h : Whole w t fat T lv) (o : Only D w w') (s : ∀ b ∈ t :: (lv.toList ++ blocksO T),b ∉ D) : Whole w' t fat T lv :=
 ⟨o.tree (s t (by simp)) h.tree,h.inn.only o (fun b hb => s b (by simp [hb])),h.fits,h.book.only o (fun m hm => s m (List.mem_cons_of_mem _ (List.mem_append_left _ hm))),h.nodup⟩
theorem TreeIs.only {D E : List Nat} {w w' : World} {t : Nat} {fat : Int} {M : List (Int × Bx)} (h : TreeIs w t fat D M) (o : Only E w w') (s : ∀ b ∈ D,b ∉ E) : TreeIs w' t fat D M := by
 obtain ⟨T,lv,hw,hD,hM⟩ := h.ex;exact ⟨⟨T,lv,hw.only o (fun b hb => s b (hD ▸ hb)),hD,hM⟩,h.fat0,h.small,h.keys,h.ids⟩
theorem TreeIs.perm {M N : List (Int × Bx)} (h : TreeIs w t fat D M) (p : N.Perm M) : TreeIs w t fat D N := by
 obtain ⟨T,lv,hw,hD,hM⟩ := h.ex;exact ⟨⟨T,lv,hw,hD,p.trans hM⟩,h.fat0,by rw [p.length_eq]; exact h.small,(p.map _).symm.nodup h.keys,fun q hq => h.ids q (p.mem_iff.1 hq)⟩
theorem TreeIs.lt {w : World} {t : Nat} {fat : Int} {D : List Nat} {M : List (Int × Bx)} (h : TreeIs w t fat D M) : ∀ b ∈ D,b < w.heap.size := by
 obtain ⟨T,lv,hw,rfl,hM⟩ := h.ex;intro b hb;simp only [zrd,List.mem_append] at hb;rcases hb with rfl | hb | hb
 ·exact hw.tree.lt
 ·cases lv with
  | none => simp at hb
  | some m => simp at hb; subst hb; obtain ⟨MD,h1,_⟩ := hw.book; exact h1.lt
 ·cases T with
  | none => simp [blocksO] at hb
  | some T => exact hw.inn.1.lt b hb
theorem yaf (L : List Lf) : (boxesOf L).map Prod.fst = L.map Lf.id := by simp [boxesOf,Function.comp_def]
theorem yjx (fat : Int) (w : World) (h0 : 0 ≤ fat) (h1 : fat ≤ 3276800) : Calls Tryz.prog 32 #[I fat] w fun e w' => ∃ t,e = .returned (.tuple #[.pointer (some (Y t 0)),.nilIface]) ∧ TreeIs w' t fat [t] [] ∧ w.heap.size ≤ t ∧ Only [] w w' := by
 have t0 : ¬ fat < 0 := by omega
 have t1 : ¬ 3276800 < fat := by omega
 go_enter Tryz.func32,Tryz.ntmps32
 go_wp2_with fail
 go_ret2
 refine ⟨w.heap.size,rfl,⟨⟨none,none,⟨(MapKept.heap_alloc w _).1,trivial,by simp [leavesO],rfl,by simp [blocksO]⟩,rfl,by simp [boxesOf,leavesO]⟩,⟨h0,h1⟩,by simp,by simp,by simp⟩,Nat.le_refl _,(Only.refl [] w).alloc _⟩
def del (M : List (Int × Bx)) (i : Int) : List (Int × Bx) := M.filter (fun p => p.1 != i)
def put (M : List (Int × Bx)) (i : Int) (q : Bx) : List (Int × Bx) := (i,q) :: del M i
theorem y4x {M : List (Int × Bx)} (h : i ∉ M.map Prod.fst) : del M i = M := by
 unfold del; rw [List.filter_eq_self];intro p hp;simp only [bne_iff_ne,ne_eq];exact fun e => h (by rw [← e]; exact List.mem_map_of_mem hp)
theorem ych {M : List (Int × Bx)} (h : i ∉ M.map Prod.fst) : del ((i,q) :: M) i = M := by
 have := y4x h;unfold del at this ⊢;simp [this]
theorem y7k {M N : List (Int × Bx)} (p : M.Perm N) (i : Int) : (del M i).Perm (del N i) := p.filter _
theorem TreeIs.find {M : List (Int × Bx)} (h : TreeIs w t fat D M) (hi : i ∈ M.map Prod.fst) :
  ∃ T m x,Whole w t fat (some T) (some m) ∧ D = t :: m :: T.blocks ∧ M.Perm (boxesOf T.leaves) ∧ x ∈ T.leaves ∧ x.id = i := by
 obtain ⟨T,lv,hw,hD,hM⟩ := h.ex;have hi' : i ∈ (leavesO T).map Lf.id := by rw [← yaf]; exact (hM.map _).mem_iff.1 hi
 obtain ⟨x,hx,rfl⟩ := List.mem_map.1 hi'
 cases T with
 | none => simp [leavesO] at hx
 | some T =>
  cases lv with
  | none => have := hw.book; simp only [MapIs,leavesO] at this hx; rw [this] at hx; simp at hx
  | some m => exact ⟨T,m,x,hw,hD,hM,hx,rfl⟩
theorem TreeIs.miss {M : List (Int × Bx)} (h : TreeIs w t fat D M) (hi : i ∉ M.map Prod.fst) :
  ∃ T lv,Whole w t fat T lv ∧ D = t :: (lv.toList ++ blocksO T) ∧ M.Perm (boxesOf (leavesO T)) ∧ i ∉ (leavesO T).map Lf.id := by
 obtain ⟨T,lv,hw,hD,hM⟩ := h.ex;exact ⟨T,lv,hw,hD,hM,fun h => hi ((hM.map _).mem_iff.2 (by rw [yaf]; exact h))⟩
theorem yd2 (h : x ∈ L) : ∃ L',L.Perm (x :: L') := by
 obtain ⟨s,t,rfl⟩ := List.append_of_mem h;exact ⟨s ++ t,List.perm_middle⟩
theorem y8w (t : Nat) (fat : Int) (D : List Nat) (M : List (Int × Bx)) (i : Int) (w : World) (h : TreeIs w t fat D M) (hi : In64 i) (hn : i ∈ M.map Prod.fst) :
  Calls Tryz.prog 43 #[.pointer (some (Y t 0)),I i] w fun e w' => e = .returned .nilIface ∧ ∃ D',TreeIs w' t fat D' (del M i) ∧ (∀ b ∈ D',b ∈ D) ∧ Only D w w' := by
 obtain ⟨T,m,x,hw,hD,hM,hx,rfl⟩ := h.find hn;have H0 : Hid (TreeIs w t fat D M ∧ Whole w t fat (some T) (some m) ∧ D = t :: m :: T.blocks ∧ M.Perm (boxesOf T.leaves) ∧ x ∈ T.leaves ∧ In64 x.id) := ⟨h,hw,hD,hM,hx,hi⟩;have c2 := hw.tree.c2;have hl := hw.book.look_some hi hx;clear hw hD hM hx hn h;go_enter Tryz.func43,Tryz.ntmps43
 go_wp2_with fail
 obtain ⟨h,hw,hD,hM,hx,_⟩ := H0.out;have nd := hw.nodup;simp only [Option.toList_some,List.cons_append,List.nil_append,blocksO] at nd;have nd2 : (t :: T.blocks).Nodup := by simp only [List.nodup_cons,zrd,not_or] at nd ⊢; exact ⟨nd.1.2,nd.2.2⟩
 have hlen : T.leaves.length ≤ 60 := by have := hM.length_eq; have := h.small; simp only [boxesOf,List.length_map] at *; omega
 refine (y79 t fat (some m) T x w nd2 (by omega) hw.inn hw.tree hx).mono ?_;rintro e w1 ⟨rfl,T',hi1,ht1,hp1,nd1,hsub,hxb,o1⟩;have hm : m ∉ t :: T.blocks := by simp only [List.nodup_cons,zrd,not_or] at nd ⊢; exact ⟨fun e => nd.1.1 e.symm,nd.2.1⟩
 have hmap : MapIs w1 (some m) (x :: leavesO T') := (hw.book.only o1 (by simpa using hm)).perm hp1;obtain ⟨MD,hown,hbk⟩ := hmap;have H1 : Hid (InO w1 T' ∧ TreeAt w1 t fat (rootO T') (some m) ∧ T.leaves.Perm (x :: leavesO T') ∧ (t :: blocksO T').Nodup ∧ (∀ b ∈ blocksO T',b ∈ T.blocks) ∧ Only (t :: T.blocks) w w1 ∧ Book MD (x :: leavesO T')) := ⟨hi1,ht1,hp1,nd1,hsub,o1,hbk⟩;have d2 := ht1.c2;clear h hw hD hM hx nd nd2 hlen hi1 ht1 hp1 nd1 hsub hxb o1 hm hbk c2 hl;go_wp2_with (first | (at_delete; refine wpList_delete_own _ rfl _ _ 111 3 rfl 110 intKey Tryz.underlying111 _ m _ MD rfl hown _ _ rfl (keyIs hi) ?_; intro w2 hown2 hturn2; have HT : Hid (_ ∧ _) := ⟨hown2,hturn2⟩; clear hown2 hturn2))
 go_ret
 obtain ⟨hown2,hturn2⟩ := HT.out;obtain ⟨h,hw,hD,hM,hx,_⟩ := H0.out;obtain ⟨hi1,ht1,hp1,nd1,hsub,o1,hbk⟩ := H1.out;have nd := hw.nodup;simp only [Option.toList_some,List.cons_append,List.nil_append,blocksO] at nd;have o2 : Only [m] w1 w2 := (Only.refl [m] w1).grown hturn2.grown (fun k hk => by injection hk with hk; exact Or.inl (by simp [hk]));have hmt : m ∉ T.blocks := by simp only [List.nodup_cons,zrd,not_or] at nd; exact nd.2.1
 have htm : t ≠ m := by simp only [List.nodup_cons,zrd,not_or] at nd; exact nd.1.1
 have hbk2 := hbk.del
 have hpm : (del M x.id).Perm (boxesOf (leavesO T')) := by
  have hp2 : M.Perm ((x.id,x.box) :: boxesOf (leavesO T')) := hM.trans (hp1.map _);have hk := (hp2.map Prod.fst).nodup h.keys;simp only [List.map_cons,List.nodup_cons] at hk;have := y7k hp2 x.id;rwa [ych hk.1] at this
 refine ⟨rfl,t :: m :: blocksO T',⟨⟨T',some m,⟨o2.tree (by simp [htm]) ht1,hi1.only o2 (fun b hb => by simp; exact fun e => hmt (e ▸ hsub b hb)),fun y hy => hw.fits y (hp1.mem_iff.2 (List.mem_cons_of_mem _ hy)),⟨_,y5d hown2 hbk2,hbk2⟩,?_⟩,rfl,hpm⟩,h.fat0,?_,?_,?_⟩,?_,?_⟩
 ·simp only [Option.toList_some,List.cons_append,List.nil_append,List.nodup_cons,zrd,not_or]
  simp only [List.nodup_cons] at nd1;exact ⟨⟨htm,nd1.1⟩,fun hb => hmt (hsub m hb),nd1.2⟩
 ·have := List.length_filter_le (fun p : Int × Bx => p.1 != x.id) M; have := h.small; unfold del; omega
 ·exact h.keys.sublist (List.filter_sublist.map _)
 ·exact fun p hp => h.ids p (List.mem_filter.1 hp).1
 ·intro b hb
  rw [hD];simp only [zrd] at hb ⊢;rcases hb with rfl | rfl | hb
  ·simp
  ·simp
  ·exact Or.inr (Or.inr (hsub b hb))
 ·rw [hD]
  exact (o1.mono (fun b hb => Or.inl (by simp only [zrd] at hb ⊢; rcases hb with e | e <;> simp [e]))).trans (o2.mono (by simp))
section
variable {P : Program} (w : World)
theorem ygk (d : Nat) {t : TypeId} (m : Option Nat) (ht : P.underlying t = some (.map k e)) : (Op.equalIn (d + 1) t (.map m) (.map none)).run P w = .ok m.isNone w := by
 cases m <;> simp [Op.equalIn,run_underlying ht]
theorem eql_map {t : TypeId} (m : Option Nat) (ht : P.underlying t = some (.map k e)) : (binOp .eql t (.map m) (.map none)).run P w = .ok (.bool m.isNone) w := by
 simp only [binOp];simp [Op.equal,Op.maxDepth,ygk w 9999 m ht]
end
theorem eqlBook (m : Option Nat) (w : World) : (binOp .eql 111 (.map m) (.map none)).run Tryz.prog w = .ok (.bool m.isNone) w := eql_map w m Tryz.underlying111
def FK (k : Nat) (q : Bx) (t : Nat) (fat : Int) (w w' : World) : Prop := Kept w w' ∧ w'.cell? ⟨k,0,none⟩ = some (J U q.x0) ∧ w'.cell? ⟨k,1,none⟩ = some (J U q.x1) ∧ w'.cell? ⟨k,2,none⟩ = some (J U q.x2) ∧ w'.cell? ⟨k,3,none⟩ = some (J U q.x3) ∧ w'.cell? ⟨k,4,none⟩ = some (J U q.x4) ∧ w'.cell? ⟨k,5,none⟩ = some (J U q.x5) ∧ w'.cell? ⟨t,0,none⟩ = some (J U fat)
theorem FK.of {k : Nat} {r : Option Nat} (kk : Kept w w') (hq : BoxAt w k q) (ht : TreeAt w t fat r lv) : FK k q t fat w w' := by
 have h := (Only.of_kept (D := []) kk).box (by simp) hq;have h3 := (Only.of_kept (D := []) kk).tree (by simp) ht;exact ⟨kk,h.off 0,h.off 1,h.off 2,h.off 3,h.off 4,h.off 5,h3.c0⟩
structure Tail (i : Int) (q : Bx) (t : Nat) (fat : Int) (m : Nat) (T : Option Tr) (MD : DataW Unit) (w : World) : Prop where
 tree : TreeAt w t fat (rootO T) (some m)
 inn : InO w T
 own : w.ownsMap Tryz.prog 3 nodeElem m 70 MD
 book : ∀ b room,Book (MD.put (key i) (.lit (.int .i64 (b : Nat)))) (⟨b,i,q,room⟩ :: leavesO T)
 nodup : (t :: m :: blocksO T).Nodup
 fits : ∀ x ∈ leavesO T,withinX x.box x.room = true
 len : (leavesO T).length < 60
theorem Tail.only {i : Int} {q : Bx} {t : Nat} {fat : Int} {m : Nat} {T : Option Tr} {MD : DataW Unit} {D : List Nat} {w w' : World} (h : Tail i q t fat m T MD w) (o : Only D w w') (s : ∀ b ∈ t :: m :: blocksO T,b ∉ D) : Tail i q t fat m T MD w' := by
 have hlt := h.own.lt;obtain ⟨es,clock,hb,r⟩ := h.own;exact ⟨o.tree (s t (by simp)) h.tree,h.inn.only o (fun b hb => s b (by simp [hb])),⟨es,clock,(o.block m hlt (s m (by simp))).trans hb,r⟩,h.book,h.nodup,h.fits,h.len⟩
def PutPost (w : World) (t : Nat) (fat : Int) (m : Nat) (T : Option Tr) (x : Lf) (w' : World) : Prop :=
 ∃ T',Whole w' t fat (some T') (some m) ∧ T'.leaves.Perm (x :: leavesO T) ∧ (∀ b ∈ T'.blocks,b ∈ x.b :: blocksO T ∨ w.heap.size ≤ b) ∧ Only (x.b :: t :: m :: blocksO T) w w'
theorem y8o {lf : Nat} {T : Option Tr} {MD : DataW Unit} {w7 : World} (h : Tail i q t fat m T MD w6) (n6 : NodeAt w6 lf ((Tr.leaf lf i q (fatX q fat)).nd none)) (hown : w7.ownsMap Tryz.prog 3 nodeElem m (70 + 1) (MD.put (key i) (.lit (.int .i64 (lf : Nat)))))
  (o7 : Only [m] w6 w7) (hlf : lf ∉ t :: m :: blocksO T) (hw : withinX q (fatX q fat) = true) :
  Calls Tryz.prog 110 #[.pointer (some (Y t 0)),.pointer (some (Y lf 0))] w7 fun e w' => e = .returned (.tuple #[]) ∧ PutPost w6 t fat m T ⟨lf,i,q,fatX q fat⟩ w' := by
 have nd := h.nodup;simp only [List.nodup_cons,zrd,not_or] at nd hlf;have hbm : ∀ b ∈ blocksO T,b ∉ [m] := fun b hb => by simp; exact fun e => nd.2.1 (e ▸ hb)
 refine (yhk t fat (some m) T ⟨lf,i,q,fatX q fat⟩ w7 (by simp only [List.nodup_cons,zrd,not_or]; exact ⟨⟨hlf.1,hlf.2.2⟩,nd.1.2,nd.2.2⟩) (by have := h.len; omega) (h.inn.only o7 hbm) (o7.tree (by simp [nd.1.1]) h.tree) (o7.node (by simp [hlf.2.1]) n6)).mono ?_;rintro e w' ⟨rfl,T',hi,ht,hp,hn,hsub,o⟩;have hm : m ∉ lf :: t :: blocksO T := by simp only [zrd,not_or]; exact ⟨fun e => hlf.2.1 e.symm,fun e => nd.1.1 e.symm,nd.2.1⟩
 have hmlt := hown.lt;have hbk := (h.book lf (fatX q fat)).perm hp.symm
 have hown' : w'.ownsMap Tryz.prog 3 nodeElem m (70 + 1) (MD.put (key i) (.lit (.int .i64 (lf : Nat)))) := by
  obtain ⟨es,clock,hb,r⟩ := hown;exact ⟨es,clock,(o.block m hmlt hm).trans hb,r⟩
 refine ⟨rfl,T',⟨ht,hi,?_,⟨_,y5d hown' hbk,hbk⟩,?_⟩,hp,fun b hb => (hsub b hb).imp id (fun q => Nat.le_trans o7.size q),?_⟩
 ·intro x hx
  rcases zrd.1 (hp.mem_iff.1 hx) with rfl | hx
  ·exact hw
  ·exact h.fits x hx
 ·simp only [Option.toList_some,List.cons_append,List.nil_append,blocksO,List.nodup_cons,zrd,not_or]
  simp only [List.nodup_cons] at hn;refine ⟨⟨nd.1.1,hn.1⟩,fun hb => ?_,hn.2⟩;rcases hsub m hb with q | q
  ·exact hm (by simp only [zrd] at q ⊢; rcases q with e | e <;> simp [e])
  ·omega
 ·refine (o7.mono (by simp)).trans (o.mono (fun b hb => Or.inl ?_))
  simp only [zrd] at hb ⊢;rcases hb with e | e | e <;> simp [e]
theorem put_bad (t : Nat) (i : Int) (q : Bx) (w : World) (h : rightC q ≠ 0) : Calls Tryz.prog 68 #[.pointer (some (Y t 0)),I i,.agg #[I q.x0,I q.x1,I q.x2,I q.x3,I q.x4,I q.x5]] w fun e w' => e = .returned (errV (rightC q)) ∧ Only [] w w' := by
 have HE : errV (rightC q) = .iface 39 (I (rightC q)) := by unfold errV; rw [if_neg h]
 have HE2 : Hid (errV (rightC q) = .iface 39 (I (rightC q))) := HE;rw [HE2.out];go_enter Tryz.func68,Tryz.ntmps68
 go_wp2_with fail
 refine (y2u q _).mono ?_;rw [HE];rintro e w1 ⟨rfl,k1⟩;have o0 : Hid (Kept w w1 ∧ BoxAt w1 w.heap.size q) := ⟨((Kept.refl w).alloc _ _).trans k1,(Only.of_kept (D := []) k1).box (by simp) (MapKept.heap_alloc w _).1⟩;clear k1 HE;go_wp2_with fail
 go_ret
 exact ⟨rfl,.of_kept o0.out.1⟩
theorem errV0 (h : rightC q = 0) : errV (rightC q) = .nilIface := by rw [h]; rfl
theorem put_full (t : Nat) (fat : Int) (D : List Nat) (M : List (Int × Bx)) (i : Int) (q : Bx) (w : World) (h : TreeIs w t fat D M) (hi : In64 i) (hn : i ∉ M.map Prod.fst) (hr : rightC q = 0) (hl : 60 ≤ M.length) :
  Calls Tryz.prog 68 #[.pointer (some (Y t 0)),I i,.agg #[I q.x0,I q.x1,I q.x2,I q.x3,I q.x4,I q.x5]] w fun e w' => e = .returned (.iface 39 (I 4)) ∧ Only [] w w' := by
 obtain ⟨T,lv,hw,hD,hM,hni⟩ := h.miss hn;have HE := errV0 hr;have H0 : Hid (Whole w t fat T lv ∧ i ∉ (leavesO T).map Lf.id ∧ (leavesO T).length = 60) := ⟨hw,hni,by have := hM.length_eq; have := h.small; simp only [boxesOf,List.length_map] at *; omega⟩;clear hw hD hM hni hn h hl hr;go_enter Tryz.func68,Tryz.ntmps68
 go_wp2_with fail
 refine (y2u q _).mono ?_;rw [HE];rintro e w1 ⟨rfl,k1⟩;have o0 : Hid (Kept w w1 ∧ BoxAt w1 w.heap.size q) := ⟨((Kept.refl w).alloc _ _).trans k1,(Only.of_kept (D := []) k1).box (by simp) (MapKept.heap_alloc w _).1⟩;clear k1 HE;have hw1 : Whole w1 t fat T lv := H0.out.1.only (.of_kept (D := []) o0.out.1) (by simp);have c2 := hw1.tree.c2;have hl := hw1.book.look_none hi H0.out.2.1;have hlen := fun ty => hw1.book.len ty;rw [H0.out.2.2] at hlen;clear hw1;go_wp2_with fail
 go_ret
 exact ⟨rfl,.of_kept o0.out.1⟩
theorem yc4 {w8 : World} {M : List (Int × Bx)} {T : Option Tr} (hM : TreeIs w t fat D M) (hi : In64 i) (xi : x.id = i) (xq : x.box = q) (hlen : (leavesO T).length < 60)
  (hdel : (del M i).Perm (boxesOf (leavesO T))) (hD : ∀ b ∈ t :: m :: blocksO T,b ∈ D ∨ w.heap.size ≤ b) (hx : w.heap.size ≤ x.b) (o6 : Only D w w6) (h : PutPost w6 t fat m T x w8) :
  ∃ D',TreeIs w8 t fat D' (put M i q) ∧ (∀ b ∈ D',b ∈ D ∨ w.heap.size ≤ b) ∧ Only D w w8 := by
 obtain ⟨T',hw,hp,hsub,o⟩ := h
 have hpm : (put M i q).Perm (boxesOf T'.leaves) := by
  refine List.Perm.trans ?_ (hp.map _).symm;unfold put;simp only [List.map_cons,xi,xq];exact List.Perm.cons _ hdel
 have hin : ∀ b ∈ t :: m :: T'.blocks,b ∈ D ∨ w.heap.size ≤ b := by
  intro b hb;simp only [zrd] at hb;rcases hb with rfl | rfl | hb
  ·exact hD _ (by simp)
  ·exact hD _ (by simp)
  ·rcases hsub b hb with q | q
   ·rcases zrd.1 q with rfl | q
    ·exact Or.inr hx
    ·exact hD b (by simp [q])
   ·exact Or.inr (Nat.le_trans o6.size q)
 refine ⟨t :: m :: T'.blocks,⟨⟨some T',some m,hw,rfl,hpm⟩,hM.fat0,?_,?_,?_⟩,hin,o6.then o (fun b hb => ?_)⟩
 ·have := hdel.length_eq; simp only [put,List.length_cons,boxesOf,List.length_map] at *; omega
 ·simp only [put,List.map_cons,List.nodup_cons]
  refine ⟨fun hb => ?_,hM.keys.sublist (List.filter_sublist.map _)⟩;obtain ⟨p,hp,rfl⟩ := List.mem_map.1 hb;have := (List.mem_filter.1 hp).2;simp at this
 ·intro p hp
  rcases zrd.1 hp with rfl | hp
  ·exact hi
  ·exact hM.ids p (List.mem_filter.1 hp).1
 ·rcases zrd.1 hb with rfl | hb
  ·exact Or.inr hx
  ·exact hD b hb
theorem yhf {w1 : World} (h : Whole w1 t fat none none) : Tail i q t fat w1.heap.size none (.map []) ((w1.alloc (.map #[] 0)).setCell (Y t 2) (.map (some w1.heap.size))) := by
 have hlt := h.tree.lt;have ne : w1.heap.size ≠ t := by omega
 refine ⟨?_,trivial,?_,fun b room => Book.empty.put (x := ⟨b,i,q,room⟩) (by simp),?_,by simp [leavesO],by simp [leavesO]⟩
 ·exact (((Only.refl [] w1).alloc _).tree (by simp) h.tree).putMap (some w1.heap.size)
 ·exact ((World.ownsMap_made w1 Tryz.prog 3 nodeElem).mono (by omega)).setCell ne _
 ·simp [blocksO,Ne.symm ne]
theorem yiy (t : Nat) (fat : Int) (D : List Nat) (M : List (Int × Bx)) (i : Int) (q : Bx) (w : World) (h : TreeIs w t fat D M) (hi : In64 i) (hr : rightC q = 0) (T : Option Tr) (hw : Whole w t fat T none) (hD : D = t :: ((none : Option Nat).toList ++ blocksO T)) (hM : M.Perm (boxesOf (leavesO T))) (hni : i ∉ (leavesO T).map Lf.id) :
  Calls Tryz.prog 68 #[.pointer (some (Y t 0)),.int .i64 i,.agg #[.int .i64 (q.x0),.int .i64 (q.x1),.int .i64 (q.x2),.int .i64 (q.x3),.int .i64 (q.x4),.int .i64 (q.x5)]] w fun e w' => e = .returned .nilIface ∧ ∃ D',TreeIs w' t fat D' (put M i q) ∧ (∀ b ∈ D',b ∈ D ∨ w.heap.size ≤ b) ∧ Only D w w' := by
 have HE := errV0 hr;have HF : Hid (withinX q (fatX q fat) = true) := y6o hr h.fat0.1 h.fat0.2
 obtain rfl : T = none := by
  cases T with
  | none => rfl
  | some T => have h1 := hw.book; have h2 := y3b T; simp only [MapIs,leavesO] at h1; rw [h1] at h2; simp at h2
 have H0 : Hid (TreeIs w t fat D M ∧ Whole w t fat none none ∧ D = [t] ∧ M.Perm []) := ⟨h,hw,by simpa [blocksO] using hD,by simpa [leavesO,boxesOf] using hM⟩;clear hw hD hM hni h hr;go_enter Tryz.func68,Tryz.ntmps68
 go_wp2_with fail
 refine (y2u q _).mono ?_;rw [HE];rintro e w1 ⟨rfl,k1⟩;have o0 : Hid (Kept w w1 ∧ BoxAt w1 w.heap.size q) := ⟨((Kept.refl w).alloc _ _).trans k1,(Only.of_kept (D := []) k1).box (by simp) (MapKept.heap_alloc w _).1⟩;clear k1 HE;have hw1 : Whole w1 t fat none none := H0.out.2.1.only (.of_kept (D := []) o0.out.1) (by simp);have c2 := hw1.tree.c2;have f2 := hw1.tree.free;have hl := hw1.book.look_none hi (by simp [leavesO]);have hlen := fun ty => hw1.book.len ty;simp only [leavesO,List.length_nil] at hlen;have hmm := @run_makeMap Tryz.prog;have heq := eqlBook none;simp only [Option.isNone_none] at heq;have c2' : ∀ o,(w1.alloc o).cell? (Y t 2) = some (.map none) := later c2;have f2' : ∀ o,(w1.alloc o).frozen? (Y t 2) = false := fun o => by rw [World.frozen?_alloc_old w1 o _ (Nat.ne_of_lt hw1.tree.lt)]; exact f2 2
 have HW1 : Hid (Whole w1 t fat none none) := hw1;clear hw1;go_wp2_with fail
 have HT : Hid (Tail i q t fat w1.heap.size none (.map []) ((w1.alloc (.map #[] 0)).setCell (Y t 2) (.map (some w1.heap.size)))) := yhf HW1.out;have oT : Only [t] w1 ((w1.alloc (.map #[] 0)).setCell (Y t 2) (.map (some w1.heap.size))) := ((Only.refl [t] w1).alloc _).setCell (by simp) _;have HB : Hid (BoxAt ((w1.alloc (.map #[] 0)).setCell (Y t 2) (.map (some w1.heap.size))) w.heap.size q) := oT.box (by have := H0.out.2.1.tree.lt; simp; omega) o0.out.2;have HO : Hid (Only D w ((w1.alloc (.map #[] 0)).setCell (Y t 2) (.map (some w1.heap.size))) ∧ w.heap.size ≤ w1.heap.size) := ⟨(Only.of_kept o0.out.1).trans (oT.mono (by rw [H0.out.2.2.1]; simp)),o0.out.1.below.size⟩
 have HL : Hid (∀ b ∈ t :: w1.heap.size :: blocksO none,b < ((w1.alloc (.map #[] 0)).setCell (Y t 2) (.map (some w1.heap.size))).heap.size) := fun b hb => by
  have h1 := HW1.out.tree.lt;simp only [blocksO,zrd,List.not_mem_nil,or_false] at hb;simp [World.setCell];rcases hb with rfl | rfl <;> omega
 clear c2 f2 hl hlen hmm c2' f2' oT heq HW1;generalize ((w1.alloc (.map #[] 0)).setCell (Y t 2) (.map (some w1.heap.size))) = wT at HT HB HO HL ⊢;generalize w1.heap.size = m at HT HO HL ⊢;generalize hk : w.heap.size = k at HB ⊢;clear hk o0 w1;generalize hMD : (.map [] : DataW Unit) = MD at HT;generalize hTT : (none : Option Tr) = T at HT HL;have HTT : Hid (none = T) := hTT;clear hMD hTT;refine wp_region_held_drew (S := (fun w' => Kept wT w' ∧ w'.cell? (Y k 0) = some (.int .i64 q.x0) ∧ w'.cell? (Y k 1) = some (.int .i64 q.x1) ∧ w'.cell? (Y k 2) = some (.int .i64 q.x2) ∧ w'.cell? (Y k 3) = some (.int .i64 q.x3) ∧ w'.cell? (Y k 4) = some (.int .i64 q.x4) ∧ w'.cell? (Y k 5) = some (.int .i64 q.x5) ∧ w'.cell? (Y t 0) = some (.int .i64 fat))) (by kernel_rfl) ?_ (fun hJ1 => ?_)
 ·exact FK.of kd HB.out HT.out.tree
 refine tkU 0 (h:=tkU 1 (h:=tkU 2 (h:=tkV 3 ?_)));try simp only [zP]
 refine tkU 4 (h:=tkU 5 (h:=tkV 6 ?_));try simp only [zP]
 refine rdW 7 rfl fun K hK => ?_;simp only [zQ];go_simp
 (go_at_call 109; refine (y3k _ _ _ _ _ _ _ _).mono ?_; rintro e w5 ⟨rfl,k5⟩)
 try go_wp2_with fail
 refine hK.out _ _ ?_ fun hJ2 => ?_
 ·exact FK.of (hJ1.1.trans k5) HB.out HT.out.tree
 clear hK K hJ1;try simp only [zP]
 refine tkV 8 ?_;try simp only [zP]
 refine rdW 9 rfl fun K hK => ?_;simp only [zQ];go_simp;refine hK.out _ _ ?_ fun hJ3 => ?_
 ·exact FK.of (hJ2.1.alloc _ _) HB.out HT.out.tree
 clear hK K;try simp only [zP]
 refine tkV 10 ?_;try simp only [zP]
 refine wpAnyH_done (by kernel_rfl) ?_ _;have H5 : Hid (Kept wT w5) := hJ2.1;clear hJ2 hJ3;generalize hw6 : World.alloc w5 _ = w6;have n6 : NodeAt w6 w5.heap.size ((Tr.leaf w5.heap.size i q (fatX q fat)).nd none) := by rw [← hw6]; exact (MapKept.heap_alloc w5 _).1
 have o6 : Only [] wT w6 := by rw [← hw6]; exact ((Only.refl [] wT).trans (.of_kept H5.out)).alloc _
 have H6 : Hid (Tail i q t fat m T MD w6 ∧ Only [] wT w6 ∧ NodeAt w6 w5.heap.size ((Tr.leaf w5.heap.size i q (fatX q fat)).nd none) ∧ wT.heap.size ≤ w5.heap.size) := ⟨HT.out.only o6 (by simp),o6,n6,H5.out.below.size⟩;clear hw6 n6 o6 H5;generalize w5.heap.size = lf at H6 ⊢;have hown := H6.out.1.own;have d2 := H6.out.1.tree.c2;have hln := H6.out.1.len;go_wp2_with (first | (at_mapUpdate; refine wpList_mapUpdate_in _ rfl _ _ _ 111 rfl 3 110 intKey Tryz.underlying111 _ m _ MD rfl hown (by unfold maxLen; omega) _ _ _ rfl rfl (keyIs hi) (.lit (.int .i64 (lf : Int))) [] rfl ?_; intro w7 hown7 hturn7; have H7 : Hid (_ ∧ _) := ⟨hown7,hturn7⟩; clear hown7 hturn7 hown d2))
 obtain ⟨hown7,hturn7⟩ := H7.out;have o7 : Only [m] w6 w7 := (Only.refl [m] w6).grown hturn7.grown (fun k hk => by injection hk with hk; exact Or.inl (by simp [hk]));refine (y8o (lf := lf) H6.out.1 H6.out.2.2.1 hown7 o7 (fun hb => by have h1 := H6.out.2.2.2; have h2 := HL.out _ hb; omega) (HF.out)).mono ?_;rintro e w8 ⟨rfl,q8⟩;have H8 : Hid _ := q8;clear q8 hown7 hturn7 H7 o7;go_wp2_with fail
 go_ret
 refine ⟨rfl,yc4 H0.out.1 hi rfl rfl H6.out.1.len ?_ ?_ ?_ (HO.out.1.trans (H6.out.2.1.mono (by simp))) H8.out⟩
 ·rw [← HTT.out]; simp only [leavesO,boxesOf,List.map_nil]; have := List.perm_nil.1 H0.out.2.2.2; rw [this]; exact List.Perm.refl _
 ·intro b hb
  rw [← HTT.out] at hb;simp only [blocksO,zrd,List.not_mem_nil,or_false] at hb;rcases hb with rfl | rfl
  ·rw [H0.out.2.2.1]; simp
  ·exact Or.inr HO.out.2
 ·exact Nat.le_trans HO.out.1.size H6.out.2.2.2
end Go.Proofs.YtbenlgandjjopaaGreatDoor
