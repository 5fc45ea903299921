/- . -/
import Derived.Test.YtbenlgandjjopaaGreatDoorN7
open Go.Value renaming int → J
open Go.IntKind renaming i64 → U
open List renaming mem_singleton → zrc,mem_cons → zrd
namespace Go.Proofs.YtbenlgandjjopaaGreatDoor
set_option maxHeartbeats 4000000
open Go.ChangeShapes Go.WideShapes Go.ChangeAt Go.RowKit
set_option linter.unusedSimpArgs false
set_option linter.unusedVariables false
variable{w w0 w1 w2:World}{t b lf:Nat}{fat:Int}{lv:Option Nat}{c:List Fr}{f:Fr}{l r M T0:Tr}{D:List Nat}{y:Nd}
def Fr.fill(f:Fr)(T:Tr):Tr:=if f.left then .node f.b T f.sib else .node f.b f.sib T
def Fr.lev(f:Fr)(T:Tr):Tr:=if f.left then levelT f.b T f.sib else levelT f.b f.sib T
def mendT:List Fr→Tr→Tr
 | [],T=>T
 |f::c,T=>mendT c (f.lev T)
theorem yas(n:Nat)(s:Tr)(tb:Nat)(kl kr:Tr):(rot n s (.node tb kl kr)).blocks.Perm (n::(s.blocks++(Tr.node tb kl kr).blocks)):=by
 unfold rot;simp only;split<;>(simp only[Tr.blocks,List.cons_append,List.append_assoc];grind)
theorem y62(n:Nat)(l r:Tr):(levelT n l r).blocks.Perm (n::(l.blocks++r.blocks)):=by
 have pl:=y0a l;have pr:=y0a r;unfold levelT;split
 ·split
  ·exact List.Perm.refl _
  ·cases r using Tr.cs with
   |leaf=>simp only[Tr.high]at*;omega
   |node tb kl kr=>exact yas ..
 ·split
  ·exact List.Perm.refl _
  ·cases l using Tr.cs with
   |leaf=>simp only[Tr.high]at*;omega
   |node tb kl kr=>exact(yas ..).trans (List.Perm.cons _ List.perm_append_comm)
theorem y9w(f:Fr)(T:Tr):(f.lev T).blocks.Perm (f.b::(T.blocks++f.sib.blocks)):=by
 unfold Fr.lev;split
 ·exact y62 ..
 ·exact(y62 ..).trans (List.Perm.cons _ List.perm_append_comm)
theorem yc5:∀T:Tr,T.high<T.blocks.length
 | ⟨_,.inl (_,_,_)⟩=>by simp[Tr.high,Tr.blocks]
 | ⟨_,.inr (l,r)⟩=>by
  have:=yc5 l;have:=yc5 r;simp only[Tr.high,Tr.blocks,List.length_cons,List.length_append];unfold greater;split<;>omega
structure Mid(w0:World)(t:Nat)(fat:Int)(lv:Option Nat)(M:Tr)(D:List Nat)(c:List Fr)(T:Tr)(w:World):Prop where
 inn:In w (upOf c) T
 arnd:Arnd w t fat lv c T.root
 perm:(T.blocks++(t::cblocks c)).Perm D
 only:Only D w0 w
 goal:mendT c T=M
theorem Mid.step{T:Tr}(h:Mid w0 t fat lv M D (f::c) T w)(hi:In w2 (upOf c) (f.lev T))(ha:Arnd w2 t fat lv c (f.lev T).root)(o:Only D w w2):Mid w0 t fat lv M D c (f.lev T) w2:=by
 refine⟨hi,ha,?_,h.only.trans o,h.goal⟩;refine List.Perm.trans ?_ h.perm;refine(List.Perm.append_right _ (y9w f T)).trans ?_;simp only[cblocks,List.cons_append,List.append_assoc];grind
theorem Mid.facts{T:Tr}(h:Mid w0 t fat lv M D (f::c) T w)(nd:D.Nodup)(hb:D.length≤800):
  (f.b::((T.blocks++f.sib.blocks)++(t::cblocks c))).Nodup∧(∀x∈f.b::((T.blocks++f.sib.blocks)++(t::cblocks c)),x∈D)∧T.high≤900∧f.sib.high≤900:=by
 have pm:(f.b::((T.blocks++f.sib.blocks)++(t::cblocks c))).Perm D:=by
  refine List.Perm.trans ?_ h.perm;simp only[cblocks,List.cons_append,List.append_assoc];grind
 have h1:=yc5 T;have h2:=yc5 f.sib;have h3:=pm.length_eq;simp only[List.length_cons,List.length_append]at h3;exact⟨pm.symm.nodup nd,fun x hx=>pm.mem_iff.1 hx,by omega,by omega⟩
theorem yb1{T:Tr}(h:Mid w0 t fat lv M D (f::c) T w)(nd:D.Nodup)(hb:D.length≤800):
  Calls Tryz.prog 150 #[.pointer (some (Y f.b 0))] w fun e w'=>e=.returned (.tuple #[])∧In w' (upOf c) (f.fill T)∧Arnd w' t fat lv c f.b∧Only D w w':=by
 obtain⟨n1,mem,b1,b2⟩:=h.facts nd hb;obtain⟨hz,hs,hc⟩:=h.arnd;have hT:=h.inn;simp only[upOf]at hT;have p1:=y0a T;have p2:=y0a f.sib;have q1:=y1l (some f.b) T;have q2:=y1l (some f.b) f.sib;rw[List.nodup_cons]at n1
 have far:∀b,b∈T.blocks∨b∈f.sib.blocks∨b∈t::cblocks c→b∉[f.b]:=fun b hb e=>n1.1 (by
  rw[zrc]at e;rw[←e];simp only[List.mem_append];rcases hb with q|q|q
  ·exact Or.inl (Or.inl q)
  ·exact Or.inl (Or.inr q)
  ·exact Or.inr q)
 have r1:T.root≠f.b:=fun e=>far _ (Or.inl (y0m T)) (by simp[e]);have r2:f.sib.root≠f.b:=fun e=>far _ (Or.inr (Or.inl (y0m f.sib))) (by simp[e])
 cases hl:f.left with
 |true=>
  refine(y3p f.b T.root f.sib.root _ _ _ w (by simp[Fr.nd,hl]) (by simp[Fr.nd,hl]) r1 r2 hz hT.node hs.node (by omega) (by omega) (by omega) (by omega)).mono ?_;rintro e w' ⟨rfl,m,o⟩;refine⟨rfl,?_,hc.only o (fun b hb=>far b (Or.inr (Or.inr hb))),o.mono (fun b hb=>Or.inl (mem b (by rw[zrc]at hb;simp[hb])))⟩;simp only[Fr.fill,hl,if_true];refine⟨?_,hT.only o (fun b hb=>far b (Or.inl hb)),hs.only o (fun b hb=>far b (Or.inr (Or.inl hb)))⟩;rw[y3w,y3w,y1l,y1l]at m;simpa[Fr.nd,y88,hl]using m
 |false=>
  refine(y3p f.b f.sib.root T.root _ _ _ w (by simp[Fr.nd,hl]) (by simp[Fr.nd,hl]) r2 r1 hz hs.node hT.node (by omega) (by omega) (by omega) (by omega)).mono ?_;rintro e w' ⟨rfl,m,o⟩;refine⟨rfl,?_,hc.only o (fun b hb=>far b (Or.inr (Or.inr hb))),o.mono (fun b hb=>Or.inl (mem b (by rw[zrc]at hb;simp[hb])))⟩;simp only[Fr.fill,hl,Bool.false_eq_true,if_false];refine⟨?_,hs.only o (fun b hb=>far b (Or.inr (Or.inl hb))),hT.only o (fun b hb=>far b (Or.inl hb))⟩;rw[y3w,y3w,y1l,y1l]at m;simpa[Fr.nd,y88,hl]using m
theorem yf4{T:Tr}(h:Mid w0 t fat lv M D (f::c) T w)(nd:D.Nodup)(hb:D.length≤800)(hi:In w1 (upOf c) (f.fill T))(ha:Arnd w1 t fat lv c f.b):
  Calls Tryz.prog 151 #[.pointer (some (Y t 0)),.pointer (some (Y f.b 0))] w1 (LevelPost w1 t fat lv c D (f.lev T)):=by
 obtain⟨n1,mem,b1,b2⟩:=h.facts nd hb;unfold Fr.fill at hi;unfold Fr.lev
 cases hl:f.left with
 |true=>
  simp only[hl,if_true]at hi⊢;exact(y9x t f.b T f.sib fat lv c w1 n1 hi ha b1 b2).mono (fun e w' q=>⟨q.1,q.2.1,q.2.2.1,q.2.2.2.mono (fun b hb=>Or.inl (mem b hb))⟩)
 |false=>
  simp only[hl,Bool.false_eq_true,if_false]at hi⊢
  have pm:(f.b::((T.blocks++f.sib.blocks)++(t::cblocks c))).Perm ((Tr.node f.b f.sib T).blocks++(t::cblocks c)):=by
   simp only[Tr.blocks,List.cons_append,List.append_assoc];grind
  exact(y9x t f.b f.sib T fat lv c w1 (pm.nodup n1) hi ha b2 b1).mono (fun e w' q=>⟨q.1,q.2.1,q.2.2.1,q.2.2.2.mono (fun b hb=>Or.inl (mem b (pm.mem_iff.2 hb)))⟩)
theorem y6k(t:Nat)(fat:Int)(lv:Option Nat)(c:List Fr)(T:Tr)(w:World)(nd:(T.blocks++(t::cblocks c)).Nodup)(hi:In w (upOf c) T)(ha:Arnd w t fat lv c T.root)(hb:(T.blocks++(t::cblocks c)).length≤800):
  Calls Tryz.prog 113 #[.pointer (some (Y t 0)),ptr (upOf c)] w fun e w'=>e=.returned (.tuple #[])∧In w' none (mendT c T)∧TreeAt w' t fat (some (mendT c T).root) lv∧Only (T.blocks++(t::cblocks c)) w w':=by
 have H0:Hid (∃c' T',c'.length=c.length∧ptr (upOf c)=ptr (upOf c')∧Mid w t fat lv (mendT c T) (T.blocks++(t::cblocks c)) c' T' w):=⟨c,T,rfl,rfl,hi,ha,List.Perm.refl _,Only.refl _ _,rfl⟩;have ND:Hid ((T.blocks++(t::cblocks c)).Nodup∧(T.blocks++(t::cblocks c)).length≤800):=⟨nd,hb⟩;clear hi ha nd hb;generalize hM:mendT c T=M at H0⊢;generalize hD:T.blocks++(t::cblocks c)=D at H0 ND⊢;clear hM hD;generalize ptr (upOf c)=p0 at H0⊢;generalize c.length=k0 at H0;clear T c;go_enter Tryz.func113,Tryz.ntmps113
 go_wp2_with fail
 go_loopg [1] k0 (fun k p wr=>∃c' T',c'.length=k∧p=ptr (upOf c')∧Mid w t fat lv M D c' T' wr)
 case atStart=>exact H0.out
 case round=>
  obtain⟨c,T,hk,rfl,hm⟩:=hrel;have HM:Hid (Mid w t fat lv M D c T wr∧c.length=gk):=⟨hm,hk⟩;clear hm hk H0
  cases c with
  |nil=>
   simp only[upOf,y7p];go_wp2_with fail
   go_end0
   obtain⟨hm,_⟩:=HM.out;have hg:=hm.goal;simp only[mendT]at hg;subst hg;exact⟨rfl,hm.inn,hm.arnd,hm.only⟩
  |cons f c=>
   simp only[upOf,y0t];go_wp2_with fail
   refine(yb1 HM.out.1 ND.out.1 ND.out.2).mono ?_;rintro e w1 ⟨rfl,hi1,ha1,o1⟩;have H1:Hid (In w1 (upOf c) (f.fill T)∧Arnd w1 t fat lv c f.b∧Only D wr w1):=⟨hi1,ha1,o1⟩;clear hi1 ha1 o1;go_wp2_with fail
   refine(yf4 HM.out.1 ND.out.1 ND.out.2 H1.out.1 H1.out.2.1).mono ?_;rintro e w2 ⟨rfl,hi2,ha2,o2⟩;have c14:=hi2.node.c14;rw[yjq]at c14;have H2:Hid (Mid w t fat lv M D c (f.lev T) w2):=HM.out.1.step hi2 ha2 (H1.out.2.2.trans o2);clear hi2 ha2 o2 H1;go_wp2_with fail
   go_roundg c.length
   case measure=>have:=HM.out.2;simp only[List.length_cons]at this;omega
   case rel=>exact⟨c,f.lev T,rfl,rfl,H2.out⟩
theorem y8j(a0 a1 a2 a3 a4 a5:Int)(w:World):Calls Tryz.prog 200 #[.agg #[I a0,I a1,I a2,I a3,I a4,I a5]] w fun e w'=>(∃v,e=.returned (I v))∧Kept w w':=by
 go_enter Tryz.func200,Tryz.ntmps200
 go_wp2_with fail
 go_ret
 exact⟨⟨_,rfl⟩,(Kept.refl _).alloc _ _⟩
theorem y70(a0 a1 a2 a3 a4 a5 b0 b1 b2 b3 b4 b5:Int)(w:World):Calls Tryz.prog 190 #[.agg #[I a0,I a1,I a2,I a3,I a4,I a5],.agg #[I b0,I b1,I b2,I b3,I b4,I b5]] w fun e w'=>(∃v,e=.returned (I v))∧Kept w w':=by
 go_enter Tryz.func190,Tryz.ntmps190
 go_wp2_with fail
 refine wp_region_held_drew (S:=(fun w'=>Kept w w'∧Zc w' w.heap.size 0 a0∧Zc w' w.heap.size 1 a1∧Zc w' w.heap.size 2 a2∧Zc w' w.heap.size 3 a3∧Zc w' w.heap.size 4 a4∧Zc w' w.heap.size 5 a5∧Zc w' (w.heap.size+1) 0 b0∧Zc w' (w.heap.size+1) 1 b1∧Zc w' (w.heap.size+1) 2 b2∧Zc w' (w.heap.size+1) 3 b3∧Zc w' (w.heap.size+1) 4 b4∧Zc w' (w.heap.size+1) 5 b5)) (by kernel_rfl) ?_ (fun hJ1=>?_)
 ·exact G66.drew (by refine⟨((Kept.refl w).alloc _ _).alloc _ _,?_,?_,?_,?_,?_,?_,?_,?_,?_,?_,?_,?_⟩<;>go_simp)
 refine tkU 0 (h:=tkU 1 (h:=tkV 4 ?_));try simp only[zP]
 refine rdW 2 rfl fun K hK=>?_;simp only[zQ];go_simp
 (go_at_call 191;refine(y94 _ _ _ _ _ _ _ _ _ _ _ _ _).mono ?_;rintro e w1 ⟨rfl,k1⟩)
 try go_wp2_with fail
 refine hK.out _ _ ?_ fun hJ2=>?_
 ·exact G66.step k1 hJ1
 clear hK K hJ1;try simp only[zP]
 refine rdW 3 rfl fun K hK=>?_;simp only[zQ];go_simp
 (go_at_call 200;refine(y8j _ _ _ _ _ _ _).mono ?_;rintro e w2 ⟨⟨v2,rfl⟩,k2⟩)
 try go_wp2_with fail
 refine hK.out _ _ ?_ fun hJ3=>?_
 ·exact G66.step k2 hJ2
 clear hK K hJ2;try simp only[zP]
 refine rdW 5 rfl fun K hK=>?_;simp only[zQ];go_simp
 (go_at_call 200;refine(y8j _ _ _ _ _ _ _).mono ?_;rintro e w3 ⟨⟨v3,rfl⟩,k3⟩)
 try go_wp2_with fail
 refine hK.out _ _ ?_ fun hJ4=>?_
 ·exact G66.step k3 hJ3
 clear hK K hJ3;try simp only[zP]
 refine tkU 6 (h:=tkV 7 ?_);try simp only[zP]
 refine wpAnyH_done (by kernel_rfl) ?_ _;go_wp2_with fail
 go_ret
 exact⟨⟨_,rfl⟩,hJ4.1⟩
/-! mate -/
theorem y7t(b:Nat)(id:Int)(box room:Bx):(Tr.leaf b id box room).root=b:=rfl
theorem ykw(b:Nat)(id:Int)(box room:Bx):(Tr.leaf b id box room).high=0:=rfl
def plug:List Fr→Tr→Tr
 | [],T=>T
 |f::c,T=>plug c (f.fill T)
theorem yfg(f:Fr)(T:Tr):(f.fill T).blocks.Perm (f.b::(T.blocks++f.sib.blocks)):=by
 unfold Fr.fill;split
 ·exact List.Perm.refl _
 ·exact List.Perm.cons _ List.perm_append_comm
theorem y3m:∀(c:List Fr) (T:Tr),(plug c T).blocks.Perm (T.blocks++cblocks c)
 | [],T=>by simp[plug,cblocks]
 |f::c,T=>by
  refine(y3m c (f.fill T)).trans ((List.Perm.append_right _ (yfg f T)).trans ?_);simp only[cblocks,List.cons_append,List.append_assoc];grind
def frL(b:Nat)(l r:Tr):Fr:=⟨b,bothX l.room r.room,1+greater l.high r.high,true,r⟩
def frR(b:Nat)(l r:Tr):Fr:=⟨b,bothX l.room r.room,1+greater l.high r.high,false,l⟩
theorem yav(hi:In w (upOf c) (.node b l r))(ha:Arnd w t fat lv c b):In w (upOf (frL b l r::c)) l∧Arnd w t fat lv (frL b l r::c) l.root:=
 ⟨hi.2.1,hi.1,hi.2.2,ha⟩
theorem y7q(hi:In w (upOf c) (.node b l r))(ha:Arnd w t fat lv c b):In w (upOf (frR b l r::c)) r∧Arnd w t fat lv (frR b l r::c) r.root:=
 ⟨hi.2.2,hi.1,hi.2.1,ha⟩
def M3(a:Nat)(ra:Bx)(f:Nat)(rf:Bx)(b:Nat)(rb:Bx)(w w':World):Prop:=Kept w w'∧w'.cell? ⟨a,7,none⟩=some (J U ra.x0)∧w'.cell? ⟨a,8,none⟩=some (J U ra.x1)∧w'.cell? ⟨a,9,none⟩=some (J U ra.x2)∧w'.cell? ⟨a,10,none⟩=some (J U ra.x3)∧w'.cell? ⟨a,11,none⟩=some (J U ra.x4)∧w'.cell? ⟨a,12,none⟩=some (J U ra.x5)∧w'.cell? ⟨f,7,none⟩=some (J U rf.x0)∧w'.cell? ⟨f,8,none⟩=some (J U rf.x1)∧w'.cell? ⟨f,9,none⟩=some (J U rf.x2)∧w'.cell? ⟨f,10,none⟩=some (J U rf.x3)∧w'.cell? ⟨f,11,none⟩=some (J U rf.x4)∧w'.cell? ⟨f,12,none⟩=some (J U rf.x5)∧w'.cell? ⟨b,7,none⟩=some (J U rb.x0)∧w'.cell? ⟨b,8,none⟩=some (J U rb.x1)∧w'.cell? ⟨b,9,none⟩=some (J U rb.x2)∧w'.cell? ⟨b,10,none⟩=some (J U rb.x3)∧w'.cell? ⟨b,11,none⟩=some (J U rb.x4)∧w'.cell? ⟨b,12,none⟩=some (J U rb.x5)
theorem M3.step{a:Nat}{ra:Bx}{f:Nat}{rf:Bx}{rb:Bx}(k:Kept w1 w2)(h:M3 a ra f rf b rb w w1):M3 a ra f rf b rb w w2:=by
 obtain⟨h0,h1,h2,h3,h4,h5,h6,h7,h8,h9,h10,h11,h12,h13,h14,h15,h16,h17,h18⟩:=h;exact⟨h0.trans k,y00 k h1,y00 k h2,y00 k h3,y00 k h4,y00 k h5,y00 k h6,y00 k h7,y00 k h8,y00 k h9,y00 k h10,y00 k h11,y00 k h12,y00 k h13,y00 k h14,y00 k h15,y00 k h16,y00 k h17,y00 k h18⟩
theorem M3.of{u v:Option Nat}(hl:In w u l)(hr:In w v r)(hy:NodeAt w lf y):M3 l.root l.room lf y.room r.root r.room w w.drew:=by
 have a:=hl.node;have b:=hr.node;have a7:=a.c7;have a8:=a.c8;have a9:=a.c9;have a10:=a.c10;have a11:=a.c11;have a12:=a.c12;have b7:=b.c7;have b8:=b.c8;have b9:=b.c9;have b10:=b.c10;have b11:=b.c11;have b12:=b.c12;rw[y3w]at a7 a8 a9 a10 a11 a12 b7 b8 b9 b10 b11 b12;exact⟨kd,a7,a8,a9,a10,a11,a12,hy.c7,hy.c8,hy.c9,hy.c10,hy.c11,hy.c12,b7,b8,b9,b10,b11,b12⟩
structure Down(w0:World)(t:Nat)(fat:Int)(lv:Option Nat)(T0:Tr)(lf:Nat)(y:Nd)(c:List Fr)(T:Tr)(w:World):Prop where
 inn:In w (upOf c) T
 arnd:Arnd w t fat lv c T.root
 whole:plug c T=T0
 leaf:NodeAt w lf y
 only:Only [] w0 w
theorem Down.go{w':World}{T:Tr}(h:Down w0 t fat lv T0 lf y c T w)(o:Only [] w w'):Down w0 t fat lv T0 lf y c T w':=
 ⟨h.inn.only o (by simp),h.arnd.only o (by simp),h.whole,o.node (by simp) h.leaf,h.only.trans o⟩
theorem Down.left(h:Down w0 t fat lv T0 lf y c (.node b l r) w):Down w0 t fat lv T0 lf y (frL b l r::c) l w:=
 ⟨(yav h.inn h.arnd).1,(yav h.inn h.arnd).2,h.whole,h.leaf,h.only⟩
theorem Down.right(h:Down w0 t fat lv T0 lf y c (.node b l r) w):Down w0 t fat lv T0 lf y (frR b l r::c) r w:=
 ⟨(y7q h.inn h.arnd).1,(y7q h.inn h.arnd).2,h.whole,h.leaf,h.only⟩
theorem len_l(b:Nat)(l r:Tr):l.blocks.length<(Tr.node b l r).blocks.length∧r.blocks.length<(Tr.node b l r).blocks.length:=by
 simp only[Tr.blocks,List.length_cons,List.length_append];omega
theorem yi7(t:Nat)(fat:Int)(lv:Option Nat)(T0:Tr)(lf:Nat)(y:Nd)(w:World)(hi:In w none T0)(ht:TreeAt w t fat (some T0.root) lv)(hy:NodeAt w lf y)(hb:T0.blocks.length≤800):
  Calls Tryz.prog 148 #[.pointer (some (Y t 0)),.pointer (some (Y lf 0))] w fun e w'=>∃c b id box room,e=.returned (.pointer (some (Y b 0)))∧Down w t fat lv T0 lf y c (.leaf b id box room) w':=by
 have c1:=ht.c1;simp only[y0t]at c1;have H0:Hid (Down w t fat lv T0 lf y [] T0 w):=⟨hi,ht,rfl,hy,Only.refl _ _⟩;have HB:Hid (T0.blocks.length≤800):=hb;clear hi ht hy hb;obtain⟨rt,hrt⟩:∃rt,rt=T0.root:=⟨_,rfl⟩;rw[←hrt]at c1;have HR:Hid (rt=T0.root):=hrt;clear hrt;go_enter Tryz.func148,Tryz.ntmps148
 go_wp2_with fail
 go_loopg [5] T0.blocks.length (fun k p wr=>∃c T,T.blocks.length=k∧p=.pointer (some (Y T.root 0))∧Down w t fat lv T0 lf y c T wr)
 case atStart=>exact⟨[],T0,rfl,by rw[HR.out],H0.out⟩
 case round=>
  obtain⟨c,T,hk,rfl,hd⟩:=hrel;have HD:Hid (Down w t fat lv T0 lf y c T wr∧T.blocks.length=gk):=⟨hd,hk⟩;clear c1 H0 hk HR;have c13:=hd.inn.node.c13;rw[y1l]at c13
  cases T using Tr.cs with
  |leaf b id box room=>
   clear hd;simp only[y7t,ykw]at c13⊢;go_wp2_with fail
   go_ret
   exact⟨c,b,id,box,room,rfl,HD.out.1⟩
  |node b l r=>
   have hh:0<(Tr.node b l r).high:=by have:=y0a l;have:=y0a r;simp only[Tr.high];unfold greater;split<;>omega
   have p1:=y0a l;have p2:=y0a r;have t0:decide (0<(Tr.node b l r).high)=true:=by simp[hh]
   generalize(Tr.node b l r).high=H at c13 hh t0;have c15:wr.cell? (Y b 15)=some (.pointer (some (Y l.root 0))):=hd.inn.1.c15;have c16:wr.cell? (Y b 16)=some (.pointer (some (Y r.root 0))):=hd.inn.1.c16;clear hd;simp only[y8u]at c13⊢;go_wp2_with fail
   go_quiet (fail)
   have HE:Hid (Down w t fat lv T0 lf y c (.node b l r) (wr.drewN nq)∧(Tr.node b l r).blocks.length=gk):=⟨HD.out.1.go (Only.drewN _ _),HD.out.2⟩;clear c13 c15 c16 HD;generalize wr.drewN nq=w0 at HE⊢;go_wp2_with fail
   refine wp_region_held_drew (S:=(fun w'=>Kept w0 w'∧Zc w' l.root 7 l.room.x0∧Zc w' l.root 8 l.room.x1∧Zc w' l.root 9 l.room.x2∧Zc w' l.root 10 l.room.x3∧Zc w' l.root 11 l.room.x4∧Zc w' l.root 12 l.room.x5∧Zc w' lf 7 y.room.x0∧Zc w' lf 8 y.room.x1∧Zc w' lf 9 y.room.x2∧Zc w' lf 10 y.room.x3∧Zc w' lf 11 y.room.x4∧Zc w' lf 12 y.room.x5∧Zc w' r.root 7 r.room.x0∧Zc w' r.root 8 r.room.x1∧Zc w' r.root 9 r.room.x2∧Zc w' r.root 10 r.room.x3∧Zc w' r.root 11 r.room.x4∧Zc w' r.root 12 r.room.x5)) (by kernel_rfl) ?_ (fun hJ1=>?_)
   ·exact M3.of HE.out.1.inn.2.1 HE.out.1.inn.2.2 HE.out.1.leaf
   refine tkU 0 (h:=tkU 1 (h:=tkU 2 (h:=tkV 3 ?_)));try simp only[zP]
   refine tkU 4 (h:=tkU 5 (h:=tkU 6 (h:=tkV 7 ?_)));try simp only[zP]
   refine tkU 9 (h:=tkU 10 (h:=tkU 11 (h:=tkV 12 ?_)));try simp only[zP]
   refine tkU 13 (h:=tkU 14 (h:=tkU 15 (h:=tkV 16 ?_)));try simp only[zP]
   refine rdW 8 rfl fun K hK=>?_;simp only[zQ];go_simp
   (go_at_call 190;refine(y70 _ _ _ _ _ _ _ _ _ _ _ _ _).mono ?_;rintro e w1 ⟨⟨v1,rfl⟩,k1⟩)
   try go_wp2_with fail
   refine hK.out _ _ ?_ fun hJ2=>?_
   ·exact M3.step k1 hJ1
   clear hK K hJ1;try simp only[zP]
   refine rdW 17 rfl fun K hK=>?_;simp only[zQ];go_simp
   (go_at_call 190;refine(y70 _ _ _ _ _ _ _ _ _ _ _ _ _).mono ?_;rintro e w2 ⟨⟨v2,rfl⟩,k2⟩)
   try go_wp2_with fail
   refine hK.out _ _ ?_ fun hJ3=>?_
   ·exact M3.step k2 hJ2
   clear hK K hJ2;try simp only[zP]
   refine tkU 18 (h:=tkV 19 ?_);try simp only[zP]
   refine wpAnyH_done (by kernel_rfl) ?_ _;have HF:Hid (Down w t fat lv T0 lf y c (.node b l r) w2∧(Tr.node b l r).blocks.length=gk):=⟨HE.out.1.go (.of_kept hJ3.1),HE.out.2⟩;clear hJ3 HE;have d1:=HF.out.1.inn.2.1.node.c13;rw[y1l]at d1;have d2:=HF.out.1.inn.2.2.node.c13;rw[y1l]at d2;by_cases h1:v2<v1
   ·have t1:decide (v2<v1)=true:=by simp[h1]
    go_wp2_with fail
    go_quiet (fail)
    go_wp2_with fail
    go_roundg r.blocks.length
    case measure=>have:=HF.out.2;have:=(len_l b l r).2;omega
    case rel=>exact⟨_,r,rfl,rfl,(HF.out.1.go (Only.drewN _ _)).right⟩
   ·have t1:decide (v2<v1)=false:=by simpa using h1
    by_cases h2:v1=v2
    ·have t2:(v1==v2)=true:=by simp[h2]
     clear h2;by_cases h3:r.high<l.high
     ·have t3:decide (r.high<l.high)=true:=by simp[h3]
      go_wp2_with fail
      go_quiet (fail)
      go_wp2_with fail
      go_roundg r.blocks.length
      case measure=>have:=HF.out.2;have:=(len_l b l r).2;omega
      case rel=>exact⟨_,r,rfl,rfl,(HF.out.1.go (Only.drewN _ _)).right⟩
     ·have t3:decide (r.high<l.high)=false:=by simpa using h3
      go_wp2_with fail
      go_quiet (fail)
      go_wp2_with fail
      go_roundg l.blocks.length
      case measure=>have:=HF.out.2;have:=(len_l b l r).1;omega
      case rel=>exact⟨_,l,rfl,rfl,(HF.out.1.go (Only.drewN _ _)).left⟩
    ·have t2:(v1==v2)=false:=by simp[h2]
     go_wp2_with fail
     go_quiet (fail)
     go_wp2_with fail
     go_roundg l.blocks.length
     case measure=>have:=HF.out.2;have:=(len_l b l r).1;omega
     case rel=>exact⟨_,l,rfl,rfl,(HF.out.1.go (Only.drewN _ _)).left⟩
theorem hang_nil(t lf:Nat)(fat:Int)(lv:Option Nat)(w:World)(ht:TreeAt w t fat none lv):
  Calls Tryz.prog 110 #[.pointer (some (Y t 0)),.pointer (some (Y lf 0))] w fun e w'=>e=.returned (.tuple #[])∧TreeAt w' t fat (some lf) lv∧Only [t] w w':=by
 have c1:=ht.c1;have f1:=ht.free;simp only[y7p]at c1;have HT:Hid (TreeAt w t fat none lv):=ht;clear ht;go_enter Tryz.func110,Tryz.ntmps110
 go_wp2_with fail
 refine bodyPost_ret (results_none rfl _ _ _) rfl ?_;exact⟨rfl,HT.out.putRoot (some lf),(Only.refl [t] w).setCell (p:=Y t 1) (by simp) _⟩
theorem Arnd.alloc{w:World}{t:Nat}{fat:Int}{lv:Option Nat}{c:List Fr}{h:Nat}(k:Arnd w t fat lv c h)(o:Obj):Arnd (w.alloc o) t fat lv c h:=k.only ((Only.refl [] w).alloc o) (by simp)
theorem NodeAt.alloc{w:World}{b:Nat}{n:Nd}(k:NodeAt w b n)(o:Obj):NodeAt (w.alloc o) b n:=((Only.refl [] w).alloc o).node (by simp) k
theorem In.lt{w:World}:∀{T:Tr} {u:Option Nat},In w u T→∀b∈T.blocks,b<w.heap.size
 | ⟨_,.inl (_,_,_)⟩,_,h,b,hb=>by simp only[Tr.blocks,zrc]at hb;rw[hb];exact NodeAt.lt h
 | ⟨_,.inr (l,r)⟩,_,h,b,hb=>by
  simp only[Tr.blocks,zrd,List.mem_append]at hb;rcases hb with rfl|hb|hb
  ·exact h.1.lt
  ·exact In.lt h.2.1 b hb
  ·exact In.lt h.2.2 b hb
theorem Arnd.lt{w:World}{t:Nat}{fat:Int}{lv:Option Nat}:∀{c:List Fr} {h:Nat},Arnd w t fat lv c h→∀b∈t::cblocks c,b<w.heap.size
 | [],_,k,b,hb=>by simp only[cblocks,zrc]at hb;rw[hb];exact TreeAt.lt k
 |f::c,_,k,b,hb=>by
  simp only[zrd,cblocks,List.mem_append]at hb;rcases hb with rfl|rfl|hb|hb
  ·exact Arnd.lt k.2.2 b (by simp)
  ·exact k.1.lt
  ·exact k.2.1.lt b hb
  ·exact Arnd.lt k.2.2 b (by simp[hb])
theorem yj5(t lf:Nat)(id:Int)(box room:Bx)(fat:Int)(lv:Option Nat)(T0:Tr)(w:World)(nd:(lf::t::T0.blocks).Nodup)(hb:T0.blocks.length≤700)(hi:In w none T0)(ht:TreeAt w t fat (some T0.root) lv)(hy:NodeAt w lf ((Tr.leaf lf id box room).nd none)):
  Calls Tryz.prog 110 #[.pointer (some (Y t 0)),.pointer (some (Y lf 0))] w fun e w'=>e=.returned (.tuple #[])∧∃c b id' box' room' j,plug c (.leaf b id' box' room')=T0∧w.heap.size≤j∧
   In w' none (mendT c (.node j (.leaf b id' box' room') (.leaf lf id box room)))∧TreeAt w' t fat (some (mendT c (.node j (.leaf b id' box' room') (.leaf lf id box room))).root) lv∧Only (lf::t::T0.blocks) w w':=by
 have c1:=ht.c1;simp only[y0t]at c1;have H0:Hid ((lf::t::T0.blocks).Nodup∧T0.blocks.length≤700∧In w none T0∧TreeAt w t fat (some T0.root) lv∧NodeAt w lf ((Tr.leaf lf id box room).nd none)):=⟨nd,hb,hi,ht,hy⟩;clear nd hb hi ht hy;obtain⟨rt,hrt⟩:∃rt,rt=T0.root:=⟨_,rfl⟩;rw[←hrt]at c1;clear hrt;go_enter Tryz.func110,Tryz.ntmps110
 go_wp2_with fail
 refine(yi7 t fat lv T0 lf _ w H0.out.2.2.1 H0.out.2.2.2.1 H0.out.2.2.2.2 (by have:=H0.out.2.1;omega)).mono ?_;rintro e w1 ⟨c,b,id',box',room',rfl,hd⟩;have HD:Hid (Down w t fat lv T0 lf ((Tr.leaf lf id box room).nd none) c (.leaf b id' box' room') w1):=hd;clear hd c1;go_wp2_with fail
 have j0:NodeAt (w1.alloc (.cells (Nd.cells ⟨0,bx0,bx0,0,none,none,none⟩) 142)) w1.heap.size ⟨0,bx0,bx0,0,none,none,none⟩:=(MapKept.heap_alloc w1 _).1;have hD:=HD.out;obtain⟨nd,hb,_,_,_⟩:=H0.out;have pm:=y3m c (.leaf b id' box' room');rw[hD.whole]at pm
 have pm2:(lf::t::T0.blocks).Perm (lf::b::(t::cblocks c)):=by
  refine(List.Perm.cons _ ((List.Perm.cons _ pm).trans ?_));simp only[Tr.blocks,List.cons_append,List.nil_append];exact List.Perm.swap _ _ _
 have nd2:=pm2.nodup nd;have hlt:=hD.arnd.lt;have hw1:=hD.only.size;simp only[List.nodup_cons,zrd,not_or]at nd2;obtain⟨⟨n1,n2,n3⟩,⟨n4,n5⟩,n6,n7⟩:=nd2;have l1:=hD.leaf.lt;have l2:=NodeAt.lt hD.inn;have fresh:∀x,x<w1.heap.size→w1.heap.size≠x:=fun x h=>by omega
 refine(y1e t b w1.heap.size _ _ fat lv c _ (fresh b l2) (fun h=>fresh _ (hlt _ h) rfl) (by simp[n4,n5]) (by simp[n6,n7]) (NodeAt.alloc hD.inn _) rfl j0 (hD.arnd.alloc _)).mono ?_;rintro e w2 ⟨rfl,hj2,ha2,o2⟩;have hdm:=y1j t c
 have hb2:=o2.node (b:=b) (by
  simp only[zrd,List.not_mem_nil,or_false,not_or]
  exact⟨Ne.symm (fresh b l2),fun e=>by rw[←e]at hdm;simp only[zrd]at hdm;rcases hdm with q|q;exact n4 q;exact n5 q⟩) (NodeAt.alloc hD.inn _)
 have hl2:=o2.node (b:=lf) (by
  simp only[zrd,List.not_mem_nil,or_false,not_or]
  exact⟨Ne.symm (fresh lf l1),fun e=>by rw[←e]at hdm;simp only[zrd]at hdm;rcases hdm with q|q;exact n2 q;exact n3 q⟩) (NodeAt.alloc hD.leaf _)
 have o2':Only (lf::t::T0.blocks) w w2:=by
  refine((hD.only.mono (by simp)).alloc _).then o2 (fun x hx=>?_)
  simp only[zrd,List.not_mem_nil,or_false]at hx;rcases hx with rfl|rfl
  ·exact Or.inr hw1
  ·exact Or.inl (pm2.mem_iff.2 (by simp only[zrd]at hdm⊢;rcases hdm with q|q<;>simp[q]))
 have H2:Hid (NodeAt w2 w1.heap.size ⟨0,bx0,bx0,0,upOf c,none,none⟩∧Arnd w2 t fat lv c w1.heap.size∧NodeAt w2 b ((Tr.leaf b id' box' room').nd (upOf c))∧NodeAt w2 lf ((Tr.leaf lf id box room).nd none)∧Only (lf::t::T0.blocks) w w2):=⟨hj2,ha2,hb2,hl2,o2'⟩;have HW:Hid (w.heap.size≤w1.heap.size∧b≠w1.heap.size∧lf≠w1.heap.size∧(∀x∈t::cblocks c,x≠w1.heap.size)∧plug c (.leaf b id' box' room')=T0):=⟨hw1,Ne.symm (fresh b l2),Ne.symm (fresh lf l1),fun x hx=>Ne.symm (fresh x (hlt x hx)),hD.whole⟩;have HP:Hid ((lf::t::T0.blocks).Perm (lf::b::(t::cblocks c))):=pm2;clear hj2 ha2 hb2 hl2 o2' o2 hw1 hD pm pm2 hlt l1 l2 fresh j0 hdm;generalize w1.heap.size=j at H2 HW⊢;clear HD;go_wp2_with fail
 obtain⟨hj2,ha2,hb2,hl2,o2⟩:=H2.out;obtain⟨w_1,w_2,w_3,w_4,w_5⟩:=HW.out;refine(y1s j b lf _ _ _ w2 w_2 w_3 (Ne.symm n1) hj2 hb2 hl2 (by simp[Tr.nd]) (by simp[Tr.nd]) (by simp[Tr.nd]) (by simp[Tr.nd])).mono ?_;rintro e w3 ⟨rfl,hj3,hb3,hl3,o3⟩;have hi3:In w3 (upOf c) (.node j (.leaf b id' box' room') (.leaf lf id box room)):=⟨hj3,hb3,hl3⟩
 have ha3:Arnd w3 t fat lv c j:=ha2.only o3 (fun x hx=>by
  simp only[zrd,List.not_mem_nil,or_false,not_or];refine⟨w_4 x hx,fun e=>?_,fun e=>?_⟩
  ·rw[e]at hx;simp only[zrd]at hx;rcases hx with q|q;exact n4 q;exact n5 q
  ·rw[e]at hx;simp only[zrd]at hx;rcases hx with q|q;exact n2 q;exact n3 q)
 have nd3:((Tr.node j (.leaf b id' box' room') (.leaf lf id box room)).blocks++(t::cblocks c)).Nodup:=by
  simp only[Tr.blocks,List.cons_append,List.nil_append,List.nodup_cons,zrd,not_or];have w4t:=w_4 t (by simp);have w4c:j∉cblocks c:=fun h=>w_4 j (by simp[h]) rfl;exact⟨⟨Ne.symm w_2,Ne.symm w_3,Ne.symm w4t,w4c⟩,⟨Ne.symm n1,n4,n5⟩,⟨n2,n3⟩,n6,n7⟩
 have ln3:((Tr.node j (.leaf b id' box' room') (.leaf lf id box room)).blocks++(t::cblocks c)).length≤800:=by
  have:=HP.out.length_eq;simp only[Tr.blocks,List.length_cons,List.length_append,List.length_nil]at this⊢;omega
 have c14:=hj3.c14
 have H3:Hid (In w3 (upOf c) (.node j (.leaf b id' box' room') (.leaf lf id box room))∧Arnd w3 t fat lv c j∧Only (lf::t::T0.blocks) w w3):=⟨hi3,ha3,o2.then o3 (fun x hx=>by
  simp only[zrd,List.not_mem_nil,or_false]at hx;rcases hx with rfl|rfl|rfl
  ·exact Or.inr w_1
  ·exact Or.inl (HP.out.mem_iff.2 (by simp))
  ·exact Or.inl (by simp))⟩
 have HL:Hid (_∧_):=⟨nd3,ln3⟩;clear hj2 ha2 hb2 hl2 o2 hj3 hb3 hl3 o3 hi3 ha3 nd3 ln3 H2;simp only at c14;go_wp2_with fail
 refine(y6k t fat lv c _ w3 HL.out.1 H3.out.1 H3.out.2.1 HL.out.2).mono ?_;rintro e w4 ⟨rfl,hi4,ht4,o4⟩;have H4:Hid (In w4 none _∧TreeAt w4 t fat _ lv∧Only _ w3 w4):=⟨hi4,ht4,o4⟩;clear hi4 ht4 o4;go_wp2_with fail
 go_end0
 obtain⟨hi4,ht4,o4⟩:=H4.out;refine⟨rfl,c,b,id',box',room',j,w_5,w_1,hi4,ht4,H3.out.2.2.then o4 (fun x hx=>?_)⟩;simp only[Tr.blocks,List.cons_append,List.nil_append,zrd]at hx;rcases hx with rfl|hx
 ·exact Or.inr w_1
 ·refine Or.inl (HP.out.mem_iff.2 ?_)
  simp only[zrd];rcases hx with q|q|q|q<;>simp[q]
theorem yi9(t lf:Nat)(y:Nd)(fat:Int)(r lv:Option Nat)(w:World)(hu:y.up=none)(hy:NodeAt w lf y)(ht:TreeAt w t fat r lv):
  Calls Tryz.prog 72 #[.pointer (some (Y t 0)),.pointer (some (Y lf 0))] w fun e w'=>e=.returned (.tuple #[])∧TreeAt w' t fat none lv∧Only [t] w w':=by
 have c1:=ht.c1;have f1:=ht.free;have c2:=hy.c14;rw[hu]at c2;simp only[y7p]at c2;have HT:Hid (TreeAt w t fat r lv):=ht;clear ht hy hu;go_enter Tryz.func72,Tryz.ntmps72
 go_wp2_with fail
 refine bodyPost_ret (results_none rfl _ _ _) rfl ?_;exact⟨rfl,HT.out.putRoot none,(Only.refl [t] w).setCell (p:=Y t 1) (by simp) _⟩
theorem yap(nd:(lf::f.b::(f.sib.blocks++(t::cblocks c))).Nodup)(hs:In w (some f.b) f.sib)(hn:NodeAt w1 f.sib.root { f.sib.nd (some f.b)with up:=upOf c})(o:Only [f.sib.root,headOf t c] w w1):In w1 (upOf c) f.sib:=by
 rw[nd_up]at hn;simp only[List.nodup_cons,List.nodup_append,zrd,List.mem_append,not_or]at nd;obtain⟨_,_,ns,_,d⟩:=nd;refine hs.reroot o (fun b hb hr=>?_) ns hn;simp only[zrd,List.not_mem_nil,or_false,not_or];refine⟨hr,fun e=>?_⟩;have hd:=y1j t c;rw[←e]at hd;exact d b hb b (by simpa using hd) rfl
theorem yfx(t lf:Nat)(id:Int)(box room:Bx)(fat:Int)(lv:Option Nat)(f:Fr)(c:List Fr)(w:World)(nd:(lf::f.b::(f.sib.blocks++(t::cblocks c))).Nodup)(hb:(f.sib.blocks++(t::cblocks c)).length≤700)
  (hi:In w (some f.b) (.leaf lf id box room))(ha:Arnd w t fat lv (f::c) lf):
  Calls Tryz.prog 72 #[.pointer (some (Y t 0)),.pointer (some (Y lf 0))] w fun e w'=>e=.returned (.tuple #[])∧In w' none (mendT c f.sib)∧TreeAt w' t fat (some (mendT c f.sib).root) lv∧Only (f.b::(f.sib.blocks++(t::cblocks c))) w w':=by
 obtain⟨hz,hs,hc⟩:=ha;have nd':=nd;simp only[List.nodup_cons,List.nodup_append,zrd,List.mem_append,not_or]at nd';obtain⟨⟨n1,n2,n3,n4⟩,⟨n5,n6,n7⟩,n8,⟨n9,n10⟩,n11⟩:=nd';have rl:f.sib.root≠lf:=fun e=>n2 (e▸y0m _);have rb:f.sib.root≠f.b:=fun e=>n5 (e▸y0m _);have rc:f.sib.root∉t::cblocks c:=fun h=>n11 _ (y0m _) _ (by simpa using h) rfl;have bc:f.b∉t::cblocks c:=by simp[n6,n7]
 have c1:w.cell? (Y lf 14)=some (.pointer (some (Y f.b 0))):=NodeAt.c14 hi;have c2:=hz.c15;have c3:=hz.c16;have H0:Hid (In w (some f.b) f.sib∧Arnd w t fat lv c f.b∧NodeAt w f.b (f.nd (upOf c) lf)∧(lf::f.b::(f.sib.blocks++(t::cblocks c))).Nodup∧(f.sib.blocks++(t::cblocks c)).length≤700):=⟨hs,hc,hz,nd,hb⟩;have q0:(binOp .eql 110 (.pointer (some (Y f.sib.root 0))) (.pointer (some (Y lf 0)))).run Tryz.prog w=.ok (.bool false) w:=ydt rl hs.node hi;have q1:=ygl;clear hz hs hc hi nd hb n2 n3 n4 n5 n6 n7 n8 n9 n10 n11
 cases hl:f.left with
 |true=>
  simp only[Fr.nd,hl,if_true,y0t]at c2 c3;clear q0;generalize hr:f.sib.root=rt at c2 c3 rl rb rc⊢;have HR:Hid (f.sib.root=rt):=hr;clear hr;go_enter Tryz.func72,Tryz.ntmps72
  go_wp2_with fail
  have hr:=HR.out;subst hr;obtain⟨hs,hc,hz,nd,hb⟩:=H0.out;have nd2:(f.sib.blocks++(t::cblocks c)).Nodup:=(List.nodup_cons.1 (List.nodup_cons.1 nd).2).2;have nd3:(t::cblocks c).Nodup:=(List.nodup_append.1 nd2).2.1;refine(y1e t f.b f.sib.root _ _ fat lv c w rb rc bc nd3 hz rfl hs.node hc).mono ?_;rintro e w1 ⟨rfl,h1,a1,o1⟩;have i1:=yap nd hs h1 o1
  have o1':Only (f.b::(f.sib.blocks++(t::cblocks c))) w w1:=o1.mono (fun x hx=>Or.inl (by
   simp only[zrd,List.not_mem_nil,or_false]at hx;have hd:=y1j t c;simp only[zrd]at hd;simp only[zrd,List.mem_append];rcases hx with rfl|rfl
   ·exact Or.inr (Or.inl (y0m _))
   ·exact Or.inr (Or.inr hd)))
  have c14:=i1.node.c14;rw[yjq]at c14;have H1:Hid (In w1 (upOf c) f.sib∧Arnd w1 t fat lv c f.sib.root∧Only (f.b::(f.sib.blocks++(t::cblocks c))) w w1∧(f.sib.blocks++(t::cblocks c)).Nodup∧(f.sib.blocks++(t::cblocks c)).length≤800):=⟨i1,a1,o1',nd2,by omega⟩;clear i1 a1 o1' o1 h1 nd2 nd3 hs hc hz nd hb c1 c2 c3 H0 q1;go_wp2_with fail
  refine(y6k t fat lv c f.sib w1 H1.out.2.2.2.1 H1.out.1 H1.out.2.1 H1.out.2.2.2.2).mono ?_;rintro e w2 ⟨rfl,i2,t2,o2⟩;have H2:Hid (In w2 none _∧TreeAt w2 t fat _ lv∧Only _ w1 w2):=⟨i2,t2,o2⟩;clear i2 t2 o2;go_wp2_with fail
  go_end0
  obtain⟨i2,t2,o2⟩:=H2.out;exact⟨rfl,i2,t2,H1.out.2.2.1.trans (o2.mono (fun x hx=>Or.inl (List.mem_cons_of_mem _ hx)))⟩
 |false=>
  simp only[Fr.nd,hl,Bool.false_eq_true,if_false,y0t]at c2 c3;generalize hr:f.sib.root=rt at c2 c3 rl rb rc q0⊢;have HR:Hid (f.sib.root=rt):=hr;clear hr;go_enter Tryz.func72,Tryz.ntmps72
  go_wp2_with fail
  clear q0;have hr:=HR.out;subst hr;obtain⟨hs,hc,hz,nd,hb⟩:=H0.out;have nd2:(f.sib.blocks++(t::cblocks c)).Nodup:=(List.nodup_cons.1 (List.nodup_cons.1 nd).2).2;have nd3:(t::cblocks c).Nodup:=(List.nodup_append.1 nd2).2.1;refine(y1e t f.b f.sib.root _ _ fat lv c w rb rc bc nd3 hz rfl hs.node hc).mono ?_;rintro e w1 ⟨rfl,h1,a1,o1⟩;have i1:=yap nd hs h1 o1
  have o1':Only (f.b::(f.sib.blocks++(t::cblocks c))) w w1:=o1.mono (fun x hx=>Or.inl (by
   simp only[zrd,List.not_mem_nil,or_false]at hx;have hd:=y1j t c;simp only[zrd]at hd;simp only[zrd,List.mem_append];rcases hx with rfl|rfl
   ·exact Or.inr (Or.inl (y0m _))
   ·exact Or.inr (Or.inr hd)))
  have c14:=i1.node.c14;rw[yjq]at c14;have H1:Hid (In w1 (upOf c) f.sib∧Arnd w1 t fat lv c f.sib.root∧Only (f.b::(f.sib.blocks++(t::cblocks c))) w w1∧(f.sib.blocks++(t::cblocks c)).Nodup∧(f.sib.blocks++(t::cblocks c)).length≤800):=⟨i1,a1,o1',nd2,by omega⟩;clear i1 a1 o1' o1 h1 nd2 nd3 hs hc hz nd hb c1 c2 c3 H0 q1;go_wp2_with fail
  refine(y6k t fat lv c f.sib w1 H1.out.2.2.2.1 H1.out.1 H1.out.2.1 H1.out.2.2.2.2).mono ?_;rintro e w2 ⟨rfl,i2,t2,o2⟩;have H2:Hid (In w2 none _∧TreeAt w2 t fat _ lv∧Only _ w1 w2):=⟨i2,t2,o2⟩;clear i2 t2 o2;go_wp2_with fail
  go_end0
  obtain⟨i2,t2,o2⟩:=H2.out;exact⟨rfl,i2,t2,H1.out.2.2.1.trans (o2.mono (fun x hx=>Or.inl (List.mem_cons_of_mem _ hx)))⟩
end Go.Proofs.YtbenlgandjjopaaGreatDoor
