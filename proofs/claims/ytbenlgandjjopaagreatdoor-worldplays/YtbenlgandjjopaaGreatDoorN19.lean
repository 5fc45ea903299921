/- . -/
import Derived.Test.YtbenlgandjjopaaGreatDoorN18
import Derived.Sort.Grow
import Derived.Maps.RangeWalk
open Go.Value renaming int → J
open Go.IntKind renaming i64 → U
open List renaming mem_singleton → zrc,mem_cons → zrd
namespace Go.Proofs.YtbenlgandjjopaaGreatDoor
set_option maxRecDepth 100000
set_option maxHeartbeats 1000000
open Go.ChangeShapes Go.WideShapes Go.ChangeAt Go.RowKit
open Go.Maps (Keyed)
set_option linter.unusedVariables false
set_option linter.unusedSimpArgs false
variable {w w' w2 : World} {v : Value} {x : Lf} {D : List Nat} {m j r n cnt : Nat} {q : Bx} {L : List Lf} {i : Int} {ys : List Int} {left : Lit → Bool}
def Tr.setBox (b : Nat) (q : Bx) : Tr → Tr
 | ⟨b',.inl (id,box,room)⟩ => if b' = b then .leaf b' id q room else .leaf b' id box room
 | ⟨b',.inr (l,r)⟩ => .node b' (l.setBox b q) (r.setBox b q)
theorem y3t (b : Nat) (q : Bx) : ∀ T : Tr,(T.setBox b q).high = T.high
 | ⟨_,.inl (_,_,_)⟩ => by unfold Tr.setBox; split <;> rfl
 | ⟨_,.inr (l,r)⟩ => by simp only [Tr.setBox,Tr.high,y3t b q l,y3t b q r]
theorem y5k (b : Nat) (q : Bx) : ∀ T : Tr,(T.setBox b q).room = T.room
 | ⟨_,.inl (_,_,_)⟩ => by unfold Tr.setBox; split <;> rfl
 | ⟨_,.inr (l,r)⟩ => by simp only [Tr.setBox,Tr.room,y5k b q l,y5k b q r]
theorem y8n (b : Nat) (q : Bx) : ∀ T : Tr,(T.setBox b q).root = T.root
 | ⟨_,.inl (_,_,_)⟩ => by unfold Tr.setBox; split <;> rfl
 | ⟨_,.inr (l,r)⟩ => rfl
theorem y2n (b : Nat) (q : Bx) : ∀ T : Tr,(T.setBox b q).blocks = T.blocks
 | ⟨_,.inl (_,_,_)⟩ => by unfold Tr.setBox; split <;> rfl
 | ⟨_,.inr (l,r)⟩ => by simp only [Tr.setBox,Tr.blocks,y2n b q l,y2n b q r]
theorem y6q (b : Nat) (q : Bx) : ∀ T : Tr,Bal T → Bal (T.setBox b q)
 | ⟨_,.inl (_,_,_)⟩,_ => by unfold Tr.setBox; split <;> trivial
 | ⟨_,.inr (l,r)⟩,h => by simp only [Tr.setBox,Bal,y3t]; exact ⟨y6q b q l h.1,y6q b q r h.2.1,h.2.2⟩
theorem y69 (b : Nat) (q : Bx) : ∀ T : Tr,b ∉ T.blocks → T.setBox b q = T
 | ⟨_,.inl (_,_,_)⟩,h => by unfold Tr.setBox; rw [if_neg (fun e => h (by simp [Tr.blocks,e]))]
 | ⟨_,.inr (l,r)⟩,h => by
  simp only [Tr.blocks,zrd,List.mem_append,not_or] at h;simp only [Tr.setBox,y69 b q l h.2.1,y69 b q r h.2.2]
theorem y3u (b : Nat) (q : Bx) : ∀ T : Tr,(T.setBox b q).leaves = T.leaves.map (fun y => if y.b = b then { y with box := q } else y)
 | ⟨_,.inl (_,_,_)⟩ => by unfold Tr.setBox; split <;> simp [Tr.leaves, *]
 | ⟨_,.inr (l,r)⟩ => by simp only [Tr.setBox,Tr.leaves,y3u b q l,y3u b q r,List.map_append]
theorem yj7 (b : Nat) (q : Bx) (b' : Nat) (l r : Tr) (u : Option Nat) : ((Tr.node b' l r).setBox b q).nd u = (Tr.node b' l r).nd u := by
 simp only [Tr.setBox,y88,y5k,y3t,y8n]
theorem y5n : ∀ T : Tr,(T.leaves.map Lf.b).Sublist T.blocks
 | ⟨_,.inl (_,_,_)⟩ => by simp [Tr.leaves,Tr.blocks]
 | ⟨b,.inr (l,r)⟩ => by simp only [Tr.leaves,Tr.blocks,List.map_append]; exact ((y5n l).append (y5n r)).cons b
theorem y9a {w w' : World} {x : Lf} {q : Bx} (o : Only [x.b] w w') (hx : ∀ u,NodeAt w x.b (x.tree.nd u) → NodeAt w' x.b ((Tr.leaf x.b x.id q x.room).nd u)) : ∀ (T : Tr) (u : Option Nat),T.blocks.Nodup → x ∈ T.leaves → In w u T → In w' u (T.setBox x.b q)
 | ⟨b,.inl (id,box,room)⟩,u,_,hm,h => by
  simp only [Tr.leaves,zrc] at hm;subst hm;simp only [Tr.setBox,if_true];exact hx u h
 | ⟨b,.inr (l,r)⟩,u,nd,hm,h => by
  simp only [Tr.blocks,List.nodup_cons,List.mem_append,not_or,List.nodup_append] at nd;simp only [Tr.leaves,List.mem_append] at hm
  have key : b ≠ x.b := fun e => by
   rcases hm with q | q
   ·exact nd.1.1 (e ▸ y3a q)
   ·exact nd.1.2 (e ▸ y3a q)
  have hn : NodeAt w' b (((Tr.node b l r).setBox x.b q).nd u) := by rw [yj7]; exact o.node (by simp [key]) h.1
  rcases hm with hm | hm
  ·have hr : x.b ∉ r.blocks := fun hb => nd.2.2.2 _ (y3a hm) _ hb rfl
   refine ⟨hn,y9a o hx l (some b) nd.2.1 hm h.2.1,?_⟩;rw [y69 x.b q r hr];exact h.2.2.only o (fun y hy => by simp; exact fun e => hr (e ▸ hy))
  ·have hl : x.b ∉ l.blocks := fun hb => nd.2.2.2 _ hb _ (y3a hm) rfl
   refine ⟨hn,?_,y9a o hx r (some b) nd.2.2.1 hm h.2.2⟩;rw [y69 x.b q l hl];exact h.2.1.only o (fun y hy => by simp; exact fun e => hl (e ▸ hy))
theorem yfp {T : Tr} {x : Lf} {L : List Lf} (nd : T.blocks.Nodup) (p : T.leaves.Perm (x :: L)) (q : Bx) : (T.setBox x.b q).leaves.Perm ({ x with box := q } :: L) := by
 rw [y3u]
 refine (p.map _).trans ?_
 simp only [List.map_cons,if_true]
 refine List.Perm.cons _ (List.Perm.of_eq ?_)
 have hn : ((x :: L).map Lf.b).Nodup := (p.map _).nodup (nd.sublist (y5n T))
 simp only [List.map_cons,List.nodup_cons] at hn
 conv => rhs; rw [← List.map_id L]
 refine List.map_congr_left (fun y hy => ?_)
 rw [if_neg (fun e => hn.1 (by rw [← e]; exact List.mem_map_of_mem hy))]; rfl
theorem ybv {w1 : World} {t : Nat} {fat : Int} {M : List (Int × Bx)} {T : Tr} (hT : TreeIs w t fat D M) (hw : Whole w1 t fat (some T) (some m)) (hD : D = t :: m :: T.blocks) (hM : M.Perm (boxesOf T.leaves)) (hx : x ∈ T.leaves) (hq : withinX q x.room = true)
  (o1 : Only [] w w1) (o2 : Only [x.b] w1 w2) (hn : ∀ n,NodeAt w1 x.b n → NodeAt w2 x.b { n with box := q }) : TreeIs w2 t fat D (put M x.id q) ∧ Only D w w2 := by
 have nd := hw.nodup;simp only [Option.toList_some,List.cons_append,List.nil_append,blocksO,List.nodup_cons,zrd,not_or] at nd;have hb := y3a hx;obtain ⟨L,pL⟩ := yd2 hx;have p2 := yfp nd.2.2 pL q;obtain ⟨MD,hown,hbk⟩ := hw.book;have hbk2 : Book MD (T.setBox x.b q).leaves := ((hbk.perm pL).box (y := { x with box := q }) rfl rfl).perm p2.symm;have hmlt := hown.lt
 have hown2 : w2.ownsMap Tryz.prog 3 nodeElem m T.leaves.length MD := by
  obtain ⟨es,clock,hb',r⟩ := hown;exact ⟨es,clock,(o2.block m hmlt (by simp; exact fun e => nd.2.1 (e ▸ hb))).trans hb',r⟩
 have hpm : (put M x.id q).Perm (boxesOf (T.setBox x.b q).leaves) := by
  refine List.Perm.trans ?_ (p2.map _).symm;refine List.Perm.cons _ ?_;have hp2 : M.Perm ((x.id,x.box) :: boxesOf L) := hM.trans (pL.map _);have hk := (hp2.map Prod.fst).nodup hT.keys;simp only [List.map_cons,List.nodup_cons] at hk;have := y7k hp2 x.id;rwa [ych hk.1] at this
 refine ⟨⟨⟨some (T.setBox x.b q),some m,⟨?_,⟨?_,y6q _ _ _ hw.inn.2⟩,?_,⟨MD,y5d hown2 hbk2,hbk2⟩,?_⟩,?_,hpm⟩,hT.fat0,?_,?_,?_⟩,(o1.mono (by simp)).trans (o2.mono (fun b hb' => Or.inl ?_))⟩
 ·have := o2.tree (by simp; exact fun e => nd.1.2 (e ▸ hb)) hw.tree
  simpa [rootO,y8n] using this
 ·exact y9a o2 (fun u hu => hn _ hu) T none nd.2.2 hx hw.inn.1
 ·intro y hy
  rcases zrd.1 (p2.mem_iff.1 hy) with rfl | hy
  ·exact hq
  ·exact hw.fits y (pL.mem_iff.2 (List.mem_cons_of_mem _ hy))
 ·simp only [Option.toList_some,List.cons_append,List.nil_append,blocksO,y2n,List.nodup_cons,zrd,not_or]; exact nd
 ·simp only [Option.toList_some,List.cons_append,List.nil_append,blocksO,y2n]; exact hD
 ·have := hpm.length_eq; have h2 := p2.length_eq; have h3 := pL.length_eq; have h4 := hM.length_eq; have := hT.small; simp only [boxesOf,List.length_map,List.length_cons] at *; omega
 ·simp only [put,List.map_cons,List.nodup_cons]
  refine ⟨fun hb' => ?_,hT.keys.sublist (List.filter_sublist.map _)⟩;obtain ⟨p,hp,e⟩ := List.mem_map.1 hb';have := (List.mem_filter.1 hp).2;simp [e] at this
 ·intro p hp
  rcases zrd.1 hp with rfl | hp
  ·exact hT.ids (x.id,x.box) (hM.mem_iff.2 (List.mem_map_of_mem (f := fun x : Lf => (x.id,x.box)) hx))
  ·exact hT.ids p (List.mem_filter.1 hp).1
 ·simp only [zrc] at hb'
  rw [hb',hD]; simp [hb]
theorem put_next (t : Nat) (fat : Int) (D : List Nat) (M : List (Int × Bx)) (i : Int) (q : Bx) (w : World) (h : TreeIs w t fat D M) (hi : In64 i) (hr : rightC q = 0) (T : Option Tr) (m : Nat) (hw : Whole w t fat T (some m)) (hD : D = t :: ((some m).toList ++ blocksO T)) (hM : M.Perm (boxesOf (leavesO T))) (hni : i ∉ (leavesO T).map Lf.id) (hl : M.length < 60) (hn : i ∉ M.map Prod.fst) :
  Calls Tryz.prog 68 #[.pointer (some (Y t 0)),.int .i64 i,.agg #[.int .i64 (q.x0),.int .i64 (q.x1),.int .i64 (q.x2),.int .i64 (q.x3),.int .i64 (q.x4),.int .i64 (q.x5)]] w fun e w' => e = .returned .nilIface ∧ ∃ D',TreeIs w' t fat D' (put M i q) ∧ (∀ b ∈ D',b ∈ D ∨ w.heap.size ≤ b) ∧ Only D w w' := by
 have HE := errV0 hr;have HF : Hid (withinX q (fatX q fat) = true) := y6o hr h.fat0.1 h.fat0.2;have H0 : Hid (TreeIs w t fat D M ∧ Whole w t fat T (some m) ∧ D = t :: m :: blocksO T ∧ M.Perm (boxesOf (leavesO T)) ∧ i ∉ (leavesO T).map Lf.id ∧ i ∉ M.map Prod.fst ∧ (leavesO T).length < 60) := ⟨h,hw,hD,hM,hni,hn,by have := hM.length_eq; simp only [boxesOf,List.length_map] at this; omega⟩;clear hw hD hM hni h hr hl hn;go_enter Tryz.func68,Tryz.ntmps68
 go_wp2_with fail
 refine (y2u q _).mono ?_;rw [HE];rintro e w1 ⟨rfl,k1⟩;have o0 : Hid (Kept w w1 ∧ BoxAt w1 w.heap.size q) := ⟨((Kept.refl w).alloc _ _).trans k1,(Only.of_kept (D := []) k1).box (by simp) (MapKept.heap_alloc w _).1⟩;clear k1 HE;have hw1 : Whole w1 t fat T (some m) := H0.out.2.1.only (.of_kept (D := []) o0.out.1) (by simp);have c2 := hw1.tree.c2;have hl := hw1.book.look_none hi H0.out.2.2.2.2.1;have hlen := fun ty => hw1.book.len ty;have t1 := H0.out.2.2.2.2.2.2;generalize (leavesO T).length = n at hlen t1;have t2 : decide ((60 : Int) ≤ (n : Int)) = false := by simp; omega
 clear t1;have heq := eqlBook (some m);simp only [Option.isNone_some] at heq
 have HT : Hid (∃ MD,Tail i q t fat m T MD w1) := by
  obtain ⟨MD,hown,hbk⟩ := hw1.book;refine ⟨MD,⟨hw1.tree,hw1.inn,hown.mono (by have := H0.out.2.2.2.2.2.2; omega),fun b room => hbk.put (x := ⟨b,i,q,room⟩) H0.out.2.2.2.2.1,by simpa using hw1.nodup,hw1.fits,H0.out.2.2.2.2.2.2⟩⟩
 have HL : Hid (∀ b ∈ t :: m :: blocksO T,b < w1.heap.size) := fun b hb => by
  have h1 := o0.out.1.below.size;have h2 := H0.out.1.lt b (by rw [H0.out.2.2.1]; exact hb);omega
 clear hw1;go_wp2_with fail
 obtain ⟨MD,ht⟩ := HT.out;clear HT;have HT : Hid (Tail i q t fat m T MD w1) := ht;have HB : Hid (BoxAt w1 w.heap.size q) := o0.out.2;have HO : Hid (Only D w w1) := .of_kept o0.out.1;clear ht c2 hl hlen t2 heq o0;generalize hk : w.heap.size = k at HB ⊢;clear hk;generalize hwT : w1 = wT at HT HB HO HL ⊢;clear hwT w1;refine wp_region_held_drew (S := (fun w' => Kept wT w' ∧ w'.cell? (Y k 0) = some (.int .i64 q.x0) ∧ w'.cell? (Y k 1) = some (.int .i64 q.x1) ∧ w'.cell? (Y k 2) = some (.int .i64 q.x2) ∧ w'.cell? (Y k 3) = some (.int .i64 q.x3) ∧ w'.cell? (Y k 4) = some (.int .i64 q.x4) ∧ w'.cell? (Y k 5) = some (.int .i64 q.x5) ∧ w'.cell? (Y t 0) = some (.int .i64 fat))) (by kernel_rfl) ?_ (fun hJ1 => ?_)
 ·exact FK.of kd HB.out HT.out.tree
 refine tkU 0 (h:=tkU 1 (h:=tkU 2 (h:=tkV 3 ?_)));try simp only [zP]
 refine tkU 4 (h:=tkU 5 (h:=tkV 6 ?_));try simp only [zP]
 refine rdW 7 rfl fun K hK => ?_;simp only [zQ];go_simp
 (go_at_call 109; refine (y3k _ _ _ _ _ _ _ _).mono ?_; rintro e w5 ⟨rfl,k5⟩)
 try go_wp2_with fail
 refine hK.out _ _ ?_ fun hJ2 => ?_
 ·exact FK.of (hJ1.1.trans k5) HB.out HT.out.tree
 clear hK K hJ1;try simp only [zP]
 refine tkV 8 ?_;try simp only [zP]
 refine rdW 9 rfl fun K hK => ?_;simp only [zQ];go_simp;refine hK.out _ _ ?_ fun hJ3 => ?_
 ·exact FK.of (hJ2.1.alloc _ _) HB.out HT.out.tree
 clear hK K;try simp only [zP]
 refine tkV 10 ?_;try simp only [zP]
 refine wpAnyH_done (by kernel_rfl) ?_ _;have H5 : Hid (Kept wT w5) := hJ2.1;clear hJ2 hJ3;generalize hw6 : World.alloc w5 _ = w6;have n6 : NodeAt w6 w5.heap.size ((Tr.leaf w5.heap.size i q (fatX q fat)).nd none) := by rw [← hw6]; exact (MapKept.heap_alloc w5 _).1
 have o6 : Only [] wT w6 := by rw [← hw6]; exact ((Only.refl [] wT).trans (.of_kept H5.out)).alloc _
 have H6 : Hid (Tail i q t fat m T MD w6 ∧ Only [] wT w6 ∧ NodeAt w6 w5.heap.size ((Tr.leaf w5.heap.size i q (fatX q fat)).nd none) ∧ wT.heap.size ≤ w5.heap.size) := ⟨HT.out.only o6 (by simp),o6,n6,H5.out.below.size⟩;clear hw6 n6 o6 H5;generalize w5.heap.size = lf at H6 ⊢;have hown := H6.out.1.own;have d2 := H6.out.1.tree.c2;have hln := H6.out.1.len;go_wp2_with (first | (at_mapUpdate; refine wpList_mapUpdate_in _ rfl _ _ _ 111 rfl 3 110 intKey Tryz.underlying111 _ m _ MD rfl hown (by unfold maxLen; omega) _ _ _ rfl rfl (keyIs hi) (.lit (.int .i64 (lf : Int))) [] rfl ?_; intro w7 hown7 hturn7; have H7 : Hid (_ ∧ _) := ⟨hown7,hturn7⟩; clear hown7 hturn7 hown d2))
 obtain ⟨hown7,hturn7⟩ := H7.out;have o7 : Only [m] w6 w7 := (Only.refl [m] w6).grown hturn7.grown (fun k hk => by injection hk with hk; exact Or.inl (by simp [hk]));refine (y8o (lf := lf) H6.out.1 H6.out.2.2.1 hown7 o7 (fun hb => by have h1 := H6.out.2.2.2; have h2 := HL.out _ hb; omega) (HF.out)).mono ?_;rintro e w8 ⟨rfl,q8⟩;have H8 : Hid _ := q8;clear q8 hown7 hturn7 H7 o7;go_wp2_with fail
 go_ret
 refine ⟨rfl,yc4 H0.out.1 hi rfl rfl H6.out.1.len ?_ ?_ ?_ (HO.out.trans (H6.out.2.1.mono (by simp))) H8.out⟩
 ·rw [y4x H0.out.2.2.2.2.2.1]; exact H0.out.2.2.2.1
 ·intro b hb; rw [H0.out.2.2.1]; exact Or.inl hb
 ·exact Nat.le_trans HO.out.size H6.out.2.2.2
theorem yk2 (t : Nat) (fat : Int) (D : List Nat) (M : List (Int × Bx)) (i : Int) (q : Bx) (w : World) (h : TreeIs w t fat D M) (hi : In64 i) (hr : rightC q = 0) (hn : i ∈ M.map Prod.fst) :
  Calls Tryz.prog 68 #[.pointer (some (Y t 0)),.int .i64 i,.agg #[.int .i64 (q.x0),.int .i64 (q.x1),.int .i64 (q.x2),.int .i64 (q.x3),.int .i64 (q.x4),.int .i64 (q.x5)]] w fun e w' => e = .returned .nilIface ∧ ∃ D',TreeIs w' t fat D' (put M i q) ∧ (∀ b ∈ D',b ∈ D ∨ w.heap.size ≤ b) ∧ Only D w w' := by
 obtain ⟨T,m,x,hw,hD,hM,hx,hxi⟩ := h.find hn;have HE := errV0 hr;have HF : Hid (withinX q (fatX q fat) = true) := y6o hr h.fat0.1 h.fat0.2;have b0 := h.fat0.1; have b1 := h.fat0.2;have H0 : Hid (TreeIs w t fat D M ∧ Whole w t fat (some T) (some m) ∧ D = t :: m :: T.blocks ∧ M.Perm (boxesOf T.leaves) ∧ x ∈ T.leaves ∧ x.id = i) := ⟨h,hw,hD,hM,hx,hxi⟩;clear hw hD hM h hr hn hx hxi;go_enter Tryz.func68,Tryz.ntmps68
 go_wp2_with fail
 refine (y2u q _).mono ?_;rw [HE];rintro e w1 ⟨rfl,k1⟩;have o0 : Hid (Kept w w1 ∧ BoxAt w1 w.heap.size q) := ⟨((Kept.refl w).alloc _ _).trans k1,(Only.of_kept (D := []) k1).box (by simp) (MapKept.heap_alloc w _).1⟩;clear k1 HE;have hw1 : Whole w1 t fat (some T) (some m) := H0.out.2.1.only (.of_kept (D := []) o0.out.1) (by simp);have c2 := hw1.tree.c2;have hl := hw1.book.look_some (x := x) (by rw [H0.out.2.2.2.2.2]; exact hi) H0.out.2.2.2.2.1;rw [H0.out.2.2.2.2.2] at hl;obtain ⟨c,hz1,hxn,hz2⟩ := ycu x T [] hw1.inn.1 hw1.tree H0.out.2.2.2.2.1;have q0 := o0.out.2.off 0; have q1 := o0.out.2.off 1; have q2 := o0.out.2.off 2; have q3 := o0.out.2.off 3; have q4 := o0.out.2.off 4; have q5 := o0.out.2.off 5;simp at q0 q1 q2 q3 q4 q5;have HW1 : Hid (Whole w1 t fat (some T) (some m) ∧ NodeAt w1 x.b (x.tree.nd (upOf c))) := ⟨hw1,hxn⟩;clear hw1 hxn hz1 hz2;go_wp2_with fail
 refine (yem t x.b _ fat _ _ q w1 HW1.out.2 HW1.out.1.tree b0 b1).mono ?_;rintro e w2 ⟨⟨v,rfl,hv⟩,k2⟩;have HB : Hid (BoxAt w2 w.heap.size q) := (Only.of_kept (D := []) k2).box (by simp) o0.out.2;have HW2 : Hid (Whole w2 t fat (some T) (some m) ∧ NodeAt w2 x.b (x.tree.nd (upOf c)) ∧ Only [] w w2 ∧ (v = true → withinX q x.room = true)) := ⟨HW1.out.1.only (.of_kept (D := []) k2) (by simp),HW1.out.2.kept k2,(Only.of_kept o0.out.1).trans (.of_kept k2),hv⟩;clear hv k2 c2 hl q0 q1 q2 q3 q4 q5 o0 HW1;generalize hk : w.heap.size = k at HB ⊢;have HKK : Hid (w.heap.size = k) := hk;clear hk
 cases v with
 | true =>
  have q0 := HB.out.off 0; have q1 := HB.out.off 1; have q2 := HB.out.off 2; have q3 := HB.out.off 3; have q4 := HB.out.off 4; have q5 := HB.out.off 5;simp at q0 q1 q2 q3 q4 q5;have d1 := HW2.out.2.1.c1; have d2 := HW2.out.2.1.c2; have d3 := HW2.out.2.1.c3; have d4 := HW2.out.2.1.c4; have d5 := HW2.out.2.1.c5; have d6 := HW2.out.2.1.c6; have df := HW2.out.2.1.free;go_wp2_with fail
  go_ret
  clear q0 q1 q2 q3 q4 q5 d1 d2 d3 d4 d5 d6 df;obtain ⟨h,hw,hD,hM,hx,hxi⟩ := H0.out;have key := ybv (q := q) h HW2.out.1 hD hM hx (HW2.out.2.2.2 (by first | trivial | rfl)) HW2.out.2.2.1 (((((((Only.refl [x.b] w2).setCell (p := Y x.b 1) (by simp) (.int .i64 (q.x0))).setCell (p := Y x.b 2) (by simp) (.int .i64 (q.x1))).setCell (p := Y x.b 3) (by simp) (.int .i64 (q.x2))).setCell (p := Y x.b 4) (by simp) (.int .i64 (q.x3))).setCell (p := Y x.b 5) (by simp) (.int .i64 (q.x4))).setCell (p := Y x.b 6) (by simp) (.int .i64 (q.x5))) (fun n hn => hn.putBox q);rw [hxi] at key;exact ⟨rfl,D,key.1,fun b hb => Or.inl hb,key.2⟩
 | false =>
  go_wp2_with fail
  have hw2 := HW2.out.1;have nd := hw2.nodup;simp only [Option.toList_some,List.cons_append,List.nil_append,blocksO] at nd;have nd2 : (t :: T.blocks).Nodup := by simp only [List.nodup_cons,zrd,not_or] at nd ⊢; exact ⟨nd.1.2,nd.2.2⟩
  have hlen : T.leaves.length ≤ 60 := by have h1 := H0.out.2.2.2.1.length_eq; have h2 := H0.out.1.small; simp only [boxesOf,List.length_map] at h1; omega
  refine (y79 t fat (some m) T x w2 nd2 (by omega) hw2.inn hw2.tree H0.out.2.2.2.2.1).mono ?_;rintro e w3 ⟨rfl,T',hi3,ht3,hp3,nd3,hsub,hxb,o3⟩;have hm : m ∉ t :: T.blocks := by simp only [List.nodup_cons,zrd,not_or] at nd ⊢; exact ⟨fun e => nd.1.1 e.symm,nd.2.1⟩
  have hmap : MapIs w3 (some m) (x :: leavesO T') := (hw2.book.only o3 (by simpa using hm)).perm hp3;obtain ⟨MD,hown,hbk⟩ := hmap
  have HT : Hid (Tail i q t fat m T' MD w3) := by
   refine ⟨ht3,hi3,hown.mono (by have := hp3.length_eq; simp only [List.length_cons] at this ⊢; omega),fun b room => ?_,?_,fun y hy => hw2.fits y (hp3.mem_iff.2 (List.mem_cons_of_mem _ hy)),by have := hp3.length_eq; simp only [List.length_cons] at this; omega⟩
   ·have := hbk.swap (y := ⟨b,i,q,room⟩) H0.out.2.2.2.2.2.symm
    exact this
   ·simp only [List.nodup_cons,zrd,not_or] at nd nd3 ⊢
    exact ⟨⟨nd.1.1,nd3.1⟩,fun hb => nd.2.1 (hsub m hb),nd3.2⟩
  have HD : Hid (∀ b ∈ t :: m :: blocksO T',b ∈ D) := fun b hb => by
   rw [H0.out.2.2.1];simp only [zrd] at hb ⊢;rcases hb with e | e | e
   ·exact Or.inl e
   ·exact Or.inr (Or.inl e)
   ·exact Or.inr (Or.inr (hsub b e))
  have HO : Hid (Only D w w3) := (HW2.out.2.2.1.mono (by simp)).trans (o3.mono (fun b hb => Or.inl (by rw [H0.out.2.2.1]; simp only [zrd] at hb ⊢; rcases hb with e | e <;> simp [e])))
  have HDel : Hid ((del M i).Perm (boxesOf (leavesO T'))) := by
   have hp2 : M.Perm ((i,x.box) :: boxesOf (leavesO T')) := by
    have := H0.out.2.2.2.1.trans (hp3.map _);simp only [List.map_cons,H0.out.2.2.2.2.2] at this;exact this
   have hk := (hp2.map Prod.fst).nodup H0.out.1.keys;simp only [List.map_cons,List.nodup_cons] at hk;have := y7k hp2 i;rw [ych hk.1] at this;exact this
  have HL : Hid (∀ b ∈ t :: m :: blocksO T',b < w3.heap.size) := fun b hb => by
   have h1 := HO.out.size;have h2 := H0.out.1.lt b (HD.out b hb);omega
  have HB3 : Hid (BoxAt w3 k q) := o3.box (fun hb => by
   have h2 := H0.out.1.lt k (by rw [H0.out.2.2.1]; simp only [zrd] at hb ⊢; rcases hb with e | e <;> simp [e]);have := HKK.out
   omega) HB.out
  clear HB hw2 nd nd2 hlen hi3 ht3 hp3 nd3 hsub hxb o3 hm hown hbk HW2 HKK;have HB : Hid (BoxAt w3 k q) := HB3;clear HB3;go_wp2_with fail
  generalize hwT : w3 = wT at HT HB HO HL ⊢;clear hwT w3 w2 w1;generalize hTT : T' = T2 at HT HL HDel HD;clear hTT T';have HO' : Hid (TreeIs w t fat D M) := H0.out.1;clear H0;generalize hT3 : T2 = T at HT HL HDel HD;clear hT3 T2;refine wp_region_held_drew (S := (fun w' => Kept wT w' ∧ w'.cell? (Y k 0) = some (.int .i64 q.x0) ∧ w'.cell? (Y k 1) = some (.int .i64 q.x1) ∧ w'.cell? (Y k 2) = some (.int .i64 q.x2) ∧ w'.cell? (Y k 3) = some (.int .i64 q.x3) ∧ w'.cell? (Y k 4) = some (.int .i64 q.x4) ∧ w'.cell? (Y k 5) = some (.int .i64 q.x5) ∧ w'.cell? (Y t 0) = some (.int .i64 fat))) (by kernel_rfl) ?_ (fun hJ1 => ?_)
  ·exact FK.of kd HB.out HT.out.tree
  refine tkU 0 (h:=tkU 1 (h:=tkU 2 (h:=tkV 3 ?_)));try simp only [zP]
  refine tkU 4 (h:=tkU 5 (h:=tkV 6 ?_));try simp only [zP]
  refine rdW 7 rfl fun K hK => ?_;simp only [zQ];go_simp
  (go_at_call 109; refine (y3k _ _ _ _ _ _ _ _).mono ?_; rintro e w5 ⟨rfl,k5⟩)
  try go_wp2_with fail
  refine hK.out _ _ ?_ fun hJ2 => ?_
  ·exact FK.of (hJ1.1.trans k5) HB.out HT.out.tree
  clear hK K hJ1;try simp only [zP]
  refine tkV 8 ?_;try simp only [zP]
  refine rdW 9 rfl fun K hK => ?_;simp only [zQ];go_simp;refine hK.out _ _ ?_ fun hJ3 => ?_
  ·exact FK.of (hJ2.1.alloc _ _) HB.out HT.out.tree
  clear hK K;try simp only [zP]
  refine tkV 10 ?_;try simp only [zP]
  refine wpAnyH_done (by kernel_rfl) ?_ _;have H5 : Hid (Kept wT w5) := hJ2.1;clear hJ2 hJ3;generalize hw6 : World.alloc w5 _ = w6;have n6 : NodeAt w6 w5.heap.size ((Tr.leaf w5.heap.size i q (fatX q fat)).nd none) := by rw [← hw6]; exact (MapKept.heap_alloc w5 _).1
  have o6 : Only [] wT w6 := by rw [← hw6]; exact ((Only.refl [] wT).trans (.of_kept H5.out)).alloc _
  have H6 : Hid (Tail i q t fat m T MD w6 ∧ Only [] wT w6 ∧ NodeAt w6 w5.heap.size ((Tr.leaf w5.heap.size i q (fatX q fat)).nd none) ∧ wT.heap.size ≤ w5.heap.size) := ⟨HT.out.only o6 (by simp),o6,n6,H5.out.below.size⟩;clear hw6 n6 o6 H5;generalize w5.heap.size = lf at H6 ⊢;have hown := H6.out.1.own;have d2 := H6.out.1.tree.c2;have hln := H6.out.1.len;go_wp2_with (first | (at_mapUpdate; refine wpList_mapUpdate_in _ rfl _ _ _ 111 rfl 3 110 intKey Tryz.underlying111 _ m _ MD rfl hown (by unfold maxLen; omega) _ _ _ rfl rfl (keyIs hi) (.lit (.int .i64 (lf : Int))) [] rfl ?_; intro w7 hown7 hturn7; have H7 : Hid (_ ∧ _) := ⟨hown7,hturn7⟩; clear hown7 hturn7 hown d2))
  obtain ⟨hown7,hturn7⟩ := H7.out;have o7 : Only [m] w6 w7 := (Only.refl [m] w6).grown hturn7.grown (fun k hk => by injection hk with hk; exact Or.inl (by simp [hk]));refine (y8o (lf := lf) H6.out.1 H6.out.2.2.1 hown7 o7 (fun hb => by have h1 := H6.out.2.2.2; have h2 := HL.out _ hb; omega) (HF.out)).mono ?_;rintro e w8 ⟨rfl,q8⟩;have H8 : Hid _ := q8;clear q8 hown7 hturn7 H7 o7;go_wp2_with fail
  go_ret
  refine ⟨rfl,yc4 HO'.out hi rfl rfl H6.out.1.len HDel.out ?_ ?_ (HO.out.trans (H6.out.2.1.mono (by simp))) H8.out⟩
  ·intro b hb; exact Or.inl (HD.out b hb)
  ·exact Nat.le_trans HO.out.size H6.out.2.2.2
def putC (M : List (Int × Bx)) (i : Int) (q : Bx) : Int := if rightC q = 0 then (if i ∉ M.map Prod.fst ∧ 60 ≤ M.length then 4 else 0) else rightC q
def putM (M : List (Int × Bx)) (i : Int) (q : Bx) : List (Int × Bx) := if putC M i q = 0 then put M i q else M
theorem ydi (t : Nat) (fat : Int) (D : List Nat) (M : List (Int × Bx)) (i : Int) (q : Bx) (w : World) (h : TreeIs w t fat D M) (hi : In64 i) :
  Calls Tryz.prog 68 #[.pointer (some (Y t 0)),I i,.agg #[I q.x0,I q.x1,I q.x2,I q.x3,I q.x4,I q.x5]] w fun e w' => e = .returned (errV (putC M i q)) ∧ ∃ D',TreeIs w' t fat D' (putM M i q) ∧ (∀ b ∈ D',b ∈ D ∨ w.heap.size ≤ b) ∧ Only D w w' := by
 by_cases hr : rightC q = 0
 ·by_cases hn : i ∈ M.map Prod.fst
  ·have e0 : putC M i q = 0 := by unfold putC; rw [if_pos hr,if_neg (fun h => h.1 hn)]
   have e1 : putM M i q = put M i q := by unfold putM; rw [if_pos e0]
   rw [e0,e1];exact yk2 t fat D M i q w h hi hr hn
  ·by_cases hl : 60 ≤ M.length
   ·have e0 : putC M i q = 4 := by unfold putC; rw [if_pos hr,if_pos ⟨hn,hl⟩]
    have e1 : putM M i q = M := by unfold putM; rw [if_neg (by rw [e0]; decide)]
    rw [e0,e1];refine (put_full t fat D M i q w h hi hn hr hl).mono ?_;rintro e w' ⟨rfl,o⟩;exact ⟨rfl,D,h.only o (by simp),fun b hb => Or.inl hb,o.mono (by simp)⟩
   ·have e0 : putC M i q = 0 := by unfold putC; rw [if_pos hr,if_neg (fun h => hl h.2)]
    have e1 : putM M i q = put M i q := by unfold putM; rw [if_pos e0]
    rw [e0,e1];obtain ⟨T,lv,hw,hD,hM,hni⟩ := h.miss hn
    cases lv with
    | none => exact yiy t fat D M i q w h hi hr T hw hD hM hni
    | some m => exact put_next t fat D M i q w h hi hr T m hw hD hM hni (by omega) hn
 ·have e0 : putC M i q = rightC q := by unfold putC; rw [if_neg hr]
  have e1 : putM M i q = M := by unfold putM; rw [if_neg (by rw [e0]; exact hr)]
  rw [e0,e1];refine (put_bad t i q w hr).mono ?_;rintro e w' ⟨rfl,o⟩;exact ⟨rfl,D,h.only o (by simp),fun b hb => Or.inl hb,o.mono (by simp)⟩
open Go.ChangeShapes Go.WideShapes Go.ChangeAt Go.RowKit Go.Sort
theorem y5l (n : Int) (w : World) : Calls Tryz.prog 135 #[I n] w fun e w' => e = .returned (.bool false) ∧ w' = w := by
 have h : (n != n) = false := by simp
 go_enter Tryz.func135,Tryz.ntmps135
 go_wp2
 go_ret
 exact ⟨rfl,rfl⟩
def cmpI (a b : Int) : Int := if a < b then -1 else if b < a then 1 else 0
theorem y61 (a b : Int) (w : World) : Calls Tryz.prog 93 #[I a,I b] w fun e w' => e = .returned (I (cmpI a b)) ∧ w' = w := by
 unfold cmpI;by_cases h : a < b
 ·rw [if_pos h]
  go_enter Tryz.func93,Tryz.ntmps93
  go_wp2_with (go_at_call 135; refine (y5l _ _).mono ?_; rintro e w1 ⟨rfl,rfl⟩)
  go_ret
  exact ⟨rfl,rfl⟩
 ·rw [if_neg h]
  by_cases h2 : b < a
  ·rw [if_pos h2]
   go_enter Tryz.func93,Tryz.ntmps93
   go_wp2_with (go_at_call 135; refine (y5l _ _).mono ?_; rintro e w1 ⟨rfl,rfl⟩)
   go_ret
   exact ⟨rfl,rfl⟩
  ·rw [if_neg h2]
   go_enter Tryz.func93,Tryz.ntmps93
   go_wp2_with (go_at_call 135; refine (y5l _ _).mono ?_; rintro e w1 ⟨rfl,rfl⟩)
   go_ret
   exact ⟨rfl,rfl⟩
def orI (x y : Int) : Int := if x = 0 then y else x
theorem or_calls (b : Nat) (x y : Int) (w : World) (c0 : Zc w b 0 x) (c1 : Zc w b 1 y) : Calls Tryz.prog 92 #[.slice (some (Y b 0)) 2 2] w fun e w' => e = .returned (I (orI x y)) ∧ w' = w := by
 unfold orI;by_cases h : x = 0
 ·rw [if_pos h]
  have t1 : (x != 0) = false := by simp [h]
  clear h;by_cases h2 : y = 0
  ·have t2 : (y != 0) = false := by simp [h2]
   have HY : Hid (y = 0) := h2;clear h2;go_enter Tryz.func92,Tryz.ntmps92
   go_wp2
   refine wp_loop_rounds 3 ?_;rw [rounds_succ];go_wp2
   rw [rounds_succ];go_wp2
   rw [rounds_succ];go_wp2
   go_ret
   exact ⟨by rw [HY.out]; rfl,rfl⟩
  ·have t2 : (y != 0) = true := by simp [h2]
   go_enter Tryz.func92,Tryz.ntmps92
   go_wp2
   refine wp_loop_rounds 3 ?_;rw [rounds_succ];go_wp2
   rw [rounds_succ];go_wp2
   go_ret
   exact ⟨rfl,rfl⟩
 ·rw [if_neg h]
  have t1 : (x != 0) = true := by simp [h]
  go_enter Tryz.func92,Tryz.ntmps92
  go_wp2
  refine wp_loop_rounds 3 ?_;rw [rounds_succ];go_wp2
  go_ret
  exact ⟨rfl,rfl⟩
def cmp2 (x y : Int × Int) : Int := orI (cmpI x.1 y.1) (cmpI x.2 y.2)
def Grew (w w' : World) : Prop := ∃ q os,w' = grow (w.drewN q) os
theorem Grew.refl (w : World) : Grew w w := ⟨0,#[],by rw [grow_empty]; rfl⟩
theorem Grew.alloc {w w' : World} (h : Grew w w') (o : Obj) : Grew w (w'.alloc o) := by
 obtain ⟨q,os,rfl⟩ := h;exact ⟨q,os ++ #[o],by rw [alloc_eq_grow,grow_grow]⟩
theorem Grew.drew {w w' : World} (h : Grew w w') : Grew w w'.drew := by
 obtain ⟨q,os,rfl⟩ := h;exact ⟨q + 1,os,rfl⟩
theorem Grew.only (h : Grew w w') : Only [] w w' := by
 obtain ⟨q,os,rfl⟩ := h;refine ⟨rfl,rfl,rfl,by simp [grow,World.drewN],fun b hb _ => ?_⟩;show (w.heap ++ os)[b]? = _;rw [Array.getElem?_append_left hb]
def CL (k : Nat) (x y : Int × Int) (w w' : World) : Prop := Grew w w' ∧ w'.cell? ⟨k,0,none⟩ = some (J U (x.1)) ∧ w'.cell? ⟨k,1,none⟩ = some (J U (x.2)) ∧ w'.cell? ⟨k + 1,0,none⟩ = some (J U (y.1)) ∧ w'.cell? ⟨k + 1,1,none⟩ = some (J U (y.2))
theorem CL.alloc {k : Nat} {x y : Int × Int} {w w' : World} (h : CL k x y w w') (o : Obj) : CL k x y w (w'.alloc o) :=
 ⟨h.1.alloc o,later h.2.1 o,later h.2.2.1 o,later h.2.2.2.1 o,later h.2.2.2.2 o⟩
theorem new_row0 (w : World) (x y : Value) (t : TypeId) : (w.alloc (.cells #[x,y] t)).drew.cell? (Y w.heap.size 0) = some x := by go_simp
theorem new_row1 (w : World) (x y : Value) (t : TypeId) : (w.alloc (.cells #[x,y] t)).drew.cell? (Y w.heap.size 1) = some y := by go_simp
theorem ybd (x y : Int × Int) (w : World) : Calls Tryz.prog 91 #[.agg #[I (x.1),I (x.2)],.agg #[I (y.1),I (y.2)]] w fun e w' => e = .returned (I (cmp2 x y)) ∧ ∃ q os',w' = grow (w.drewN q) os' := by
 go_enter Tryz.func91,Tryz.ntmps91
 go_wp2_with fail
 have H0 : Hid (CL w.heap.size x y w ((w.alloc (.cells #[I (x.1),I (x.2)] 103)).alloc (.cells #[I (y.1),I (y.2)] 103))) := ⟨((Grew.refl w).alloc _).alloc _,by go_simp,by go_simp,by go_simp,by go_simp⟩;generalize ((w.alloc (.cells #[I (x.1),I (x.2)] 103)).alloc (.cells #[I (y.1),I (y.2)] 103)) = w0 at H0 ⊢;generalize w.heap.size = k at H0 ⊢;refine wp_region_held_drew (S := (fun w' => Grew w w' ∧ Zc w' k 0 (x.1) ∧ Zc w' k 1 (x.2) ∧ Zc w' (k + 1) 0 (y.1) ∧ Zc w' (k + 1) 1 (y.2))) (by kernel_rfl) ?_ (fun hJ1 => ?_)
 ·exact ⟨H0.out.1.drew,H0.out.2⟩
 refine tkU 0 (h:=tkU 1 (h:=tkU 2 (h:=tkV 3 ?_)));try simp only [zP]
 refine tkU 5 (h:=tkU 6 (h:=tkU 7 (h:=tkV 8 ?_)));try simp only [zP]
 refine rdW 4 rfl fun K hK => ?_;simp only [zQ];go_simp
 (go_at_call 93; refine (y61 _ _ _).mono ?_; rintro e w1 ⟨rfl,rfl⟩)
 try go_wp2_with fail
 refine hK.out _ _ ?_ fun hJ2 => ?_
 ·exact hJ1
 clear hK K hJ1;try simp only [zP]
 refine rdW 9 rfl fun K hK => ?_;simp only [zQ];go_simp
 (go_at_call 93; refine (y61 _ _ _).mono ?_; rintro e w2 ⟨rfl,rfl⟩)
 try go_wp2_with fail
 refine hK.out _ _ ?_ fun hJ3 => ?_
 ·exact hJ2
 clear hK K hJ2;try simp only [zP]
 refine rdW 10 rfl fun K hK => ?_;simp only [zQ];go_simp;refine hK.out _ _ ?_ fun hJ4 => ?_
 ·exact CL.alloc hJ3 _
 clear hK K;try simp only [zP]
 refine rdW 11 rfl fun K hK => ?_;simp only [zQ];go_simp
 (go_at_call 92; refine (or_calls w0.heap.size (cmpI x.1 y.1) (cmpI x.2 y.2) _ (by exact new_row0 ..) (by exact new_row1 ..)).mono ?_; rintro e w4 ⟨rfl,rfl⟩)
 try go_wp2_with fail
 refine hK.out _ _ ?_ fun hJ5 => ?_
 ·exact hJ4
 clear hK K hJ4;try simp only [zP]
 refine tkV 12 ?_;try simp only [zP]
 refine wpAnyH_done (by kernel_rfl) ?_ _;have HG : Hid (Grew w _) := hJ5.1;clear hJ5;go_wp2_with fail
 go_ret
 exact ⟨rfl,HG.out⟩
def enc2 (p : Int × Int) : List Value := [J U (p.1),J U (p.2)]
def SlPairs (w : World) (v : Value) (P : List (Int × Int)) : Prop := w.ownsRow 0 103 2 v P.length (P.flatMap enc2)
theorem pairInfo : (Tryz.prog.info? 103).map (fun i => (i.zero,i.size,i.bytes)) = some (some (.agg #[I 0,I 0]),2,16) := by kernel_rfl
theorem SlPairs.kept {P : List (Int × Int)} (h : SlPairs w v P) (o : Only D w w') (s : ∀ b ∈ ownL v,b ∉ D) : SlPairs w' v P := by
 obtain ⟨h1,h2⟩ := h;refine ⟨h1,?_⟩;rcases h2 with h2 | ⟨g,cap,cur,rfl,hb,hg,r⟩
 ·exact Or.inl h2
 ·exact Or.inr ⟨g,cap,cur,rfl,hb,(o.block g (Array.getElem?_eq_some_iff.1 hg).1 (s g (by simp [ownL,Value.ownBlock]))).trans hg,r⟩
theorem SlPairs.lt {P : List (Int × Int)} (h : SlPairs w v P) : ∀ b ∈ ownL v,b < w.heap.size := by
 intro b hb;obtain ⟨_,⟨rfl,_⟩ | ⟨g,cap,cur,rfl,_,hg,_⟩⟩ := h
 ·simp [ownL,Value.ownBlock] at hb
 ·simp only [ownL,Value.ownBlock,Option.toList_some,zrc] at hb
  subst hb;exact (Array.getElem?_eq_some_iff.1 hg).1
theorem SlPairs.nil (w : World) : SlPairs w (.slice none 0 0) [] := World.ownsRow_nil w 0 _ _
theorem SlInts.shape {xs : List Int} (h : SlInts w v xs) : ∃ a c,v = .slice a xs.length c ∧ (∀ j (hj : j < xs.length),∃ g,a = some (Y g 0) ∧ w.cell? (Y g j) = some (I (xs[j]))) := by
 obtain ⟨h1,⟨rfl,h2⟩ | ⟨g,cap,cur,rfl,hb,hg,hn,hc,hs,ht⟩⟩ := h
 ·exact ⟨none,0,by rw [h2],fun j hj => by omega⟩
 ·refine ⟨some (Y g 0),cap,rfl,fun j hj => ⟨g,rfl,?_⟩⟩
  have e : (cur.toList.take (xs.length * 1))[j]? = some (I (xs[j])) := by rw [ht]; simp [hj]
  rw [List.getElem?_take] at e;simp only [Nat.mul_one,hj,if_true] at e;simp only [World.cell?,hg,Option.isSome_none,Bool.false_eq_true,if_false];rw [← e,Array.getElem?_toList]
theorem SlPairs.shape {P : List (Int × Int)} (h : SlPairs w v P) : ∃ a c,v = .slice a P.length c ∧ (∀ j (hj : j < P.length),∃ g,a = some (Y g 0) ∧ w.cell? (Y g (j * 2)) = some (I (P[j].1)) ∧ w.cell? (Y g (j * 2 + 1)) = some (I (P[j].2))) := by
 obtain ⟨h1,⟨rfl,h2⟩ | ⟨g,cap,cur,rfl,hb,hg,hn,hc,hs,ht⟩⟩ := h
 ·exact ⟨none,0,by rw [h2],fun j hj => by omega⟩
 ·refine ⟨some (Y g 0),cap,rfl,fun j hj => ⟨g,rfl,?_⟩⟩
  have fl : ∀ (Q : List (Int × Int)) (j : Nat) (hj : j < Q.length),(Q.flatMap enc2)[j * 2]? = some (I (Q[j].1)) ∧ (Q.flatMap enc2)[j * 2 + 1]? = some (I (Q[j].2)) := by
   intro Q
   induction Q with
   | nil => intro j hj; simp at hj
   | cons p Q ih =>
    intro j hj
    cases j with
    | zero => simp [enc2]
    | succ j =>
     have := ih j (by simpa using hj);simp only [List.flatMap_cons,enc2,List.cons_append,List.nil_append];rw [show (j + 1) * 2 = j * 2 + 1 + 1 by omega];simpa using this
  have e := fl P j hj;rw [← ht,List.getElem?_take,List.getElem?_take,if_pos (by omega),if_pos (by omega)] at e;simp only [World.cell?,hg,Option.isSome_none,Bool.false_eq_true,if_false];rw [← e.1,← e.2,Array.getElem?_toList,Array.getElem?_toList];exact ⟨rfl,rfl⟩
def PairPost (w : World) (v : Value) (P : List (Int × Int)) (v' : Value) (w' : World) : Prop := SlPairs w' v' P ∧ Only (ownL v) w w' ∧ (∀ b ∈ ownL v',b ∈ ownL v ∨ w.heap.size ≤ b)
theorem yjr {w3 : World} {v' : Value} {P : List (Int × Int)} {p : Int × Int} {T : TypeId} (hown : w3.ownsRow 0 103 2 v' (P.length + 1) (P.flatMap enc2 ++ [I (p.1),I (p.2)])) (hgrow : (w2.alloc (.cells #[I (p.1),I (p.2)] T)).grownBy w3 v.ownBlock)
  (hloc : v'.ownBlock = v.ownBlock ∨ v'.ownBlock = some (w2.alloc (.cells #[I (p.1),I (p.2)] T)).heap.size) : Hid (PairPost w2 v (P ++ [p]) v' w3) := by
 refine ⟨?_,?_,?_⟩
 ·unfold SlPairs; rw [List.flatMap_append,List.length_append]; exact hown
 ·refine ((Only.refl _ _).alloc _).grown hgrow (fun k hk => Or.inl ?_)
  simp [ownL,hk]
 ·intro x hx
  rcases hloc with e | e
  ·left; simpa [ownL,e] using hx
  ·right
   simp only [ownL,e,Option.toList_some,zrc] at hx;simp at hx; omega
theorem cell_two (w : World) (a b : Value) (t : TypeId) : ∀ j u,[a,b][j]? = some u → (w.alloc (.cells #[a,b] t)).cell? ((Y w.heap.size 0).add j) = some u := by
 intro j u hj
 match j,hj with
 | 0,hj => simp at hj; subst hj; simp [Addr.add]
 | 1,hj => simp at hj; subst hj; simp [Addr.add]
 | j + 2,hj => simp at hj
def above (i : Int) (ys : List Int) : List (Int × Int) := (ys.filter (fun y => decide (i < y))).map (fun y => (i,y))
def pairsAt (L : List Lf) (x : Lf) : List (Int × Int) := above x.id (idsOf x.box L)
theorem ycn (hj : j < ys.length) (h : i < ys[j]) : above i (ys.take (j + 1)) = above i (ys.take j) ++ [(i,ys[j])] := by
 unfold above;rw [List.take_succ_eq_append_getElem hj,List.filter_append,List.map_append];congr 1;simp [List.filter_cons,h]
theorem yc9 (hj : j < ys.length) (h : ¬ i < ys[j]) : above i (ys.take (j + 1)) = above i (ys.take j) := by
 unfold above;rw [List.take_succ_eq_append_getElem hj,List.filter_append,List.map_append];simp only [List.filter_cons,h,decide_false,Bool.false_eq_true,if_false,List.filter_nil,List.map_nil,List.append_nil]
theorem yh0 (i : Int) (ys : List Int) : (above i ys).length ≤ ys.length := by unfold above; rw [List.length_map]; exact List.length_filter_le _ _
def sort2 (P : List (Int × Int)) : List (Int × Int) := P.mergeSort (fun x y => !decide (cmp2 y x < 0))
def Sorts : Prop := ∀ (w : World) (v : Value) (P : List (Int × Int)),SlPairs w v P → P.length ≤ 100000 →
 Calls Tryz.prog 90 #[v,.func (.func 91) #[] #[]] w fun e w' => e = .returned (.tuple #[]) ∧ SlPairs w' v (sort2 P) ∧ Only (ownL v) w w'
theorem y90 {MD : DataW Unit} (h : w.ranges Tryz.prog 3 nodeElem m r n MD left cnt) (o : Only D w w') (hm : m ∉ D) (hr : r ∉ D) : w'.ranges Tryz.prog 3 nodeElem m r n MD left cnt := by
 have h1 := h.owns.lt;have h2 := h.lt;obtain ⟨es,clock,since,seen,c0,hb,F,hs,hD,hrr,rest⟩ := h;exact ⟨es,clock,since,seen,c0,(o.block m h1 hm).trans hb,F,hs,hD,(o.block r h2 hr).trans hrr,rest⟩
theorem y73 {MD : DataW Unit} (h : w.ranges Tryz.prog 3 nodeElem m r n MD left cnt) {P : List (Int × Int)} (hv : SlPairs w v P) : m ∉ ownL v ∧ r ∉ ownL v := by
 obtain ⟨es,clock,since,seen,c0,hb,F,hs,hD,hrr,rest⟩ := h;obtain ⟨_,⟨rfl,_⟩ | ⟨g,cap,cur,rfl,_,hg,_⟩⟩ := hv
 ·simp [ownL,Value.ownBlock]
 ·simp only [ownL,Value.ownBlock,Option.toList_some,zrc]
  refine ⟨fun e => ?_,fun e => ?_⟩
  ·rw [e,hg] at hb; cases hb
  ·rw [e,hg] at hrr; cases hrr
structure PL (w : World) (L : List Lf) (m r : Nat) (MD : DataW Unit) (cnt : Nat) (v : Value) (dn rem : List Lf) (left : Lit → Bool) (wr : World) : Prop where
 rng : wr.ranges Tryz.prog 3 nodeElem m r L.length MD left cnt
 perm : L.Perm (dn ++ rem)
 lft : ∀ i,left (key i) = true ↔ i ∈ rem.map Lf.id
 sl : SlPairs wr v (dn.flatMap (pairsAt L))
 only : Only [] w wr
 new : ∀ b ∈ ownL v,w.heap.size ≤ b
 rnew : w.heap.size ≤ r
theorem ygc (i j : Int) : (key i).sameKey (key j) = decide (i = j) := by
 by_cases h : i = j
 ·subst h; simp [WideAt.sameKey_self (keyLit i)]
 ·rw [Maps.sameKey_ne (y87 h)]; simp [h]
theorem ycw {dn rem : List Lf} (p : L.Perm (dn ++ rem)) (h : L.length ≤ 60) : (dn.flatMap (pairsAt L)).length ≤ 3600 := by
 have h1 : ∀ x : Lf,(pairsAt L x).length ≤ 60 := fun x => Nat.le_trans (yh0 _ _) (Nat.le_trans (by unfold idsOf; rw [List.length_map]; exact List.length_filter_le _ _) h)
 have h2 : ∀ D : List Lf,(D.flatMap (pairsAt L)).length ≤ 60 * D.length := by
  intro D
  induction D with
  | nil => simp
  | cons x D ih => simp only [List.flatMap_cons,List.length_append,List.length_cons]; have := h1 x; omega
 have h3 := h2 dn;have := p.length_eq;simp only [List.length_append] at this;omega
end Go.Proofs.YtbenlgandjjopaaGreatDoor
