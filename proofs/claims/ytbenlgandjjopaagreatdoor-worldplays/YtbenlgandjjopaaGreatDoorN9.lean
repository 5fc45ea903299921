/- . -/
import Derived.Test.YtbenlgandjjopaaGreatDoorN8
import Derived.OwnWalk
open Go.Value renaming int → J
open Go.IntKind renaming i64 → U
open List renaming mem_singleton → zrc,mem_cons → zrd
namespace Go.Proofs.YtbenlgandjjopaaGreatDoor
set_option linter.unusedVariables false
set_option linter.unusedSimpArgs false
set_option maxRecDepth 100000
variable{w w' w2:World}{q a:Bx}{b k:Nat}{v:Value}{xs:List Int}{n:Nd}{D:List Nat}
structure Lf where
 b:Nat
 id:Int
 box:Bx
 room:Bx
def Tr.leaves:Tr→List Lf
 | ⟨b,.inl (id,box,room)⟩=>[⟨b,id,box,room⟩]
 | ⟨_,.inr (l,r)⟩=>l.leaves++r.leaves
theorem ya5(n:Nat)(s:Tr)(tb:Nat)(kl kr:Tr):(rot n s (.node tb kl kr)).leaves.Perm (s.leaves++(Tr.node tb kl kr).leaves):=by
 unfold rot;simp only;split
 ·simp only[Tr.leaves,List.append_assoc];exact List.Perm.refl _
 ·simp only[Tr.leaves,List.append_assoc];exact List.Perm.append_left _ List.perm_append_comm
theorem y6c(n:Nat)(l r:Tr):(levelT n l r).leaves.Perm (l.leaves++r.leaves):=by
 have pl:=y0a l;have pr:=y0a r;unfold levelT;split
 ·split
  ·exact List.Perm.refl _
  ·cases r using Tr.cs with
   |leaf=>simp only[Tr.high]at*;omega
   |node tb kl kr=>exact ya5 ..
 ·split
  ·exact List.Perm.refl _
  ·cases l using Tr.cs with
   |leaf=>simp only[Tr.high]at*;omega
   |node tb kl kr=>exact(ya5 ..).trans List.perm_append_comm
theorem yia(f:Fr)(T:Tr):(f.lev T).leaves.Perm (T.leaves++f.sib.leaves):=by
 unfold Fr.lev;split
 ·exact y6c ..
 ·exact(y6c ..).trans List.perm_append_comm
theorem yfs(f:Fr)(T:Tr):(f.fill T).leaves.Perm (T.leaves++f.sib.leaves):=by
 unfold Fr.fill;split
 ·exact List.Perm.refl _
 ·exact List.perm_append_comm
def cleaves:List Fr→List Lf
 | []=>[]
 |f::c=>f.sib.leaves++cleaves c
theorem y5c:∀(c:List Fr) (T:Tr),(plug c T).leaves.Perm (T.leaves++cleaves c)
 | [],T=>by simp[plug,cleaves]
 |f::c,T=>by
  refine(y5c c (f.fill T)).trans ((List.Perm.append_right _ (yfs f T)).trans ?_);simp only[cleaves,List.append_assoc];exact List.Perm.refl _
theorem y48:∀(c:List Fr) (T:Tr),(mendT c T).leaves.Perm (T.leaves++cleaves c)
 | [],T=>by simp[mendT,cleaves]
 |f::c,T=>by
  refine(y48 c (f.lev T)).trans ((List.Perm.append_right _ (yia f T)).trans ?_);simp only[cleaves,List.append_assoc];exact List.Perm.refl _
theorem y41:∀(c:List Fr) (T:Tr),(mendT c T).blocks.Perm (T.blocks++cblocks c)
 | [],T=>by simp[mendT,cblocks]
 |f::c,T=>by
  refine(y41 c (f.lev T)).trans ((List.Perm.append_right _ (y9w f T)).trans ?_);simp only[cblocks,List.cons_append,List.append_assoc];grind
def Bal:Tr→Prop
 | ⟨_,.inl (_,_,_)⟩=>True
 | ⟨_,.inr (l,r)⟩=>Bal l∧Bal r∧l.high≤r.high+1∧r.high≤l.high+1
theorem y0e(a b:Int):(greater a b=a∧b≤a)∨(greater a b=b∧a≤b):=by unfold greater;split<;>omega
theorem ybz:∀(c:List Fr) (T:Tr),Bal (plug c T)→Bal T
 | [],T,h=>h
 |f::c,T,h=>by
  have:=ybz c (f.fill T) h;unfold Fr.fill at this;split at this
  ·exact this.1
  ·exact this.2.1
theorem yk5(n:Nat)(s:Tr)(tb:Nat)(kl kr:Tr)(hs:Bal s)(ht:Bal (.node tb kl kr))(h:(Tr.node tb kl kr).high=s.high+2):
  Bal (rot n s (.node tb kl kr))∧s.high+2≤(rot n s (.node tb kl kr)).high∧(rot n s (.node tb kl kr)).high≤s.high+3:=by
 obtain⟨hk,hr,d1,d2⟩:=ht;simp only[Tr.high]at h;unfold rot;simp only;have g1:=y0e kl.high kr.high;split
 ·have g2:=y0e s.high kl.high
  have g3:=y0e (1+greater s.high kl.high) kr.high;simp only[Bal,Tr.high];refine⟨⟨⟨hs,hk,?_,?_⟩,hr,?_,?_⟩,?_,?_⟩<;>omega
 ·have g2:=y0e s.high kr.high
  have g3:=y0e (1+greater s.high kr.high) kl.high;simp only[Bal,Tr.high];refine⟨⟨⟨hs,hr,?_,?_⟩,hk,?_,?_⟩,?_,?_⟩<;>omega
theorem yae(n:Nat)(l r:Tr)(hl:Bal l)(hr:Bal r)(h1:l.high≤r.high+2)(h2:r.high≤l.high+2):
  Bal (levelT n l r)∧((levelT n l r).high=1+greater l.high r.high∨((levelT n l r).high=greater l.high r.high∧(l.high=r.high+2∨r.high=l.high+2))):=by
 have pl:=y0a l;have pr:=y0a r;have g:=y0e l.high r.high;unfold levelT;split
 ·split
  ·exact⟨⟨hl,hr,by omega,by omega⟩,Or.inl rfl⟩
  ·cases r using Tr.cs with
   |leaf=>simp only[Tr.high]at*;omega
   |node tb kl kr=>
    have:=yk5 n l tb kl kr hl hr (by omega);exact⟨this.1,by omega⟩
 ·split
  ·exact⟨⟨hl,hr,by omega,by omega⟩,Or.inl rfl⟩
  ·cases l using Tr.cs with
   |leaf=>simp only[Tr.high]at*;omega
   |node tb kl kr=>
    have:=yk5 n r tb kl kr hr hl (by omega);exact⟨this.1,by omega⟩
theorem y8x:∀(c:List Fr) (T T':Tr),Bal (plug c T)→Bal T'→T'.high≤T.high+1→T.high≤T'.high+1→Bal (mendT c T')
 | [],T,T',h,h',_,_=>h'
 |f::c,T,T',h,h',d1,d2=>by
  have hb:=ybz c (f.fill T) h
  have key:Bal (f.lev T')∧(f.lev T').high≤(f.fill T).high+1∧(f.fill T).high≤(f.lev T').high+1:=by
   unfold Fr.fill at hb⊢;unfold Fr.lev
   cases hl:f.left with
   |true=>
    simp only[hl,if_true]at hb⊢;have:=hb.2.2;have q:=yae f.b T' f.sib h' hb.2.1 (by omega) (by omega);have g1:=y0e T.high f.sib.high;have g2:=y0e T'.high f.sib.high;have:=hb.2.2;refine⟨q.1,?_,?_⟩<;>simp only[Tr.high]<;>omega
   |false=>
    simp only[hl,Bool.false_eq_true,if_false]at hb⊢;have:=hb.2.2;have q:=yae f.b f.sib T' hb.1 h' (by omega) (by omega);have g1:=y0e f.sib.high T.high;have g2:=y0e f.sib.high T'.high;have:=hb.2.2;refine⟨q.1,?_,?_⟩<;>simp only[Tr.high]<;>omega
  exact y8x c (f.fill T) (f.lev T') h key.1 key.2.1 key.2.2
theorem y3b:∀T:Tr,0<T.leaves.length
 | ⟨_,.inl (_,_,_)⟩=>by simp[Tr.leaves]
 | ⟨_,.inr (l,r)⟩=>by have:=y3b l;simp[Tr.leaves];omega
theorem y2o:∀T:Tr,T.blocks.length+1=2*T.leaves.length
 | ⟨_,.inl (_,_,_)⟩=>by simp[Tr.blocks,Tr.leaves]
 | ⟨_,.inr (l,r)⟩=>by have:=y2o l;have:=y2o r;simp only[Tr.blocks,Tr.leaves,List.length_cons,List.length_append];omega
def meetX(a b:Bx):Bool:=meetB a.x0 a.x1 a.x2 a.x3 a.x4 a.x5 b.x0 b.x1 b.x2 b.x3 b.x4 b.x5
def withinX(a b:Bx):Bool:=withinB a.x0 a.x1 a.x2 a.x3 a.x4 a.x5 b.x0 b.x1 b.x2 b.x3 b.x4 b.x5
theorem y4c(a b:Bx):meetX a b=true↔(a.x0≤b.x3∧b.x0≤a.x3)∧(a.x1≤b.x4∧b.x1≤a.x4)∧(a.x2≤b.x5∧b.x2≤a.x5):=by
 unfold meetX meetB;simp only[Bool.and_eq_true,decide_eq_true_eq,and_assoc]
theorem y27(a b:Bx):withinX a b=true↔(b.x0≤a.x0∧a.x3≤b.x3)∧(b.x1≤a.x1∧a.x4≤b.x4)∧(b.x2≤a.x2∧a.x5≤b.x5):=by
 unfold withinX withinB;simp only[Bool.and_eq_true,decide_eq_true_eq,and_assoc]
theorem yak(a b:Bx):meetX a b=meetX b a:=by
 rw[Bool.eq_iff_iff,y4c,y4c];omega
theorem y7x{b:Bx}(h:withinX a b=true)(m:meetX a q=true):meetX b q=true:=by
 rw[y27]at h;rw[y4c]at m⊢;omega
theorem y7c{b c:Bx}(h:withinX a b=true)(k:withinX b c=true):withinX a c=true:=by
 rw[y27]at*;omega
theorem y8i(a b:Int):lesser a b≤a∧lesser a b≤b:=by unfold lesser;split<;>omega
theorem y5e(a b:Int):a≤greater a b∧b≤greater a b:=by unfold greater;split<;>omega
theorem y86(a b:Bx):withinX a (bothX a b)=true∧withinX b (bothX a b)=true:=by
 have l0:=y8i a.x0 b.x0;have l1:=y8i a.x1 b.x1;have l2:=y8i a.x2 b.x2;have g3:=y5e a.x3 b.x3;have g4:=y5e a.x4 b.x4;have g5:=y5e a.x5 b.x5;rw[y27,y27];simp only[bothX];omega
def Fits(T:Tr):Prop:=∀x∈T.leaves,withinX x.box x.room=true
theorem y8z:∀(T:Tr),Fits T→∀x∈T.leaves,withinX x.box T.room=true
 | ⟨_,.inl (_,_,_)⟩,h,x,hx=>by have:=h x hx;simp only[Tr.leaves,zrc]at hx;subst hx;exact this
 | ⟨_,.inr (l,r)⟩,h,x,hx=>by
  simp only[Tr.leaves,List.mem_append]at hx;rcases hx with hx|hx
  ·exact y7c (y8z l (fun y hy=>h y (by simp[Tr.leaves,hy])) x hx) (y86 _ _).1
  ·exact y7c (y8z r (fun y hy=>h y (by simp[Tr.leaves,hy])) x hx) (y86 _ _).2
def meetIds(q:Bx):Tr→List Int
 | ⟨_,.inl (id,box,room)⟩=>if meetX room q then(if meetX box q then[id]else[])else[]
 | ⟨_,.inr (l,r)⟩=>if meetX (bothX l.room r.room) q then meetIds q l++meetIds q r else[]
def idsOf(q:Bx)(L:List Lf):List Int:=(L.filter (fun x=>meetX x.box q)).map Lf.id
theorem y4n(q:Bx):∀T:Tr,Fits T→meetIds q T=idsOf q T.leaves
 | ⟨b,.inl (id,box,room)⟩,h=>by
  have hw:withinX box room=true:=h ⟨b,id,box,room⟩ (by simp[Tr.leaves]);simp only[meetIds,Tr.leaves,idsOf,List.filter_cons,List.filter_nil];by_cases hm:meetX box q=true
  ·rw[if_pos (y7x hw hm),if_pos hm,if_pos hm];rfl
  ·rw[if_neg hm,if_neg hm];split<;>rfl
 | ⟨b,.inr (l,r)⟩,h=>by
  have el:=y4n q l (fun y hy=>h y (by simp[Tr.leaves,hy]));have er:=y4n q r (fun y hy=>h y (by simp[Tr.leaves,hy]));simp only[meetIds,Tr.leaves];split
  ·rw[el,er];simp[idsOf]
  ·rename_i hm
   have hnone:idsOf q (l.leaves++r.leaves)=[]:=by
    simp only[idsOf,List.map_eq_nil_iff,List.filter_eq_nil_iff];intro x hx hmx;exact hm (y7x (y8z (.node b l r) h x hx) hmx)
   rw[hnone]
theorem y6u(q:Bx)(T:Tr):(meetIds q T).length≤T.leaves.length:=by
 induction T using Tr.ind with
 |leaf=>simp only[meetIds,Tr.leaves];split<;>(try split)<;>simp
 |node b l r hl hr=>simp only[meetIds,Tr.leaves];split<;>simp;omega
open Go.ChangeShapes Go.WideShapes Go.ChangeAt Go.RowKit
def SlInts(w:World)(v:Value)(xs:List Int):Prop:=w.ownsRow 0 3 1 v xs.length (xs.map (Value.int .i64))
def ownL(v:Value):List Nat:=v.ownBlock.toList
theorem SlInts.apart(h:SlInts w v xs)(k:NodeAt w b n):b∉ownL v:=by
 intro hb;obtain⟨_,⟨rfl,_⟩| ⟨g,cap,cur,rfl,_,hg,_⟩⟩:=h
 ·simp[ownL,Value.ownBlock]at hb
 ·simp only[ownL,Value.ownBlock,Option.toList_some,zrc]at hb
  subst hb;unfold NodeAt at k;rw[hg]at k;injection k with k
  injection k with _ k _;exact absurd k (by decide)
theorem SlInts.kept(h:SlInts w v xs)(o:Only D w w')(s:∀b∈ownL v,b∉D):SlInts w' v xs:=by
 obtain⟨h1,h2⟩:=h;refine⟨h1,?_⟩;rcases h2 with h2| ⟨g,cap,cur,rfl,hb,hg,r⟩
 ·exact Or.inl h2
 ·exact Or.inr ⟨g,cap,cur,rfl,hb,(o.block g (Array.getElem?_eq_some_iff.1 hg).1 (s g (by simp[ownL,Value.ownBlock]))).trans hg,r⟩
theorem SlInts.lt(h:SlInts w v xs):∀b∈ownL v,b<w.heap.size:=by
 intro b hb;obtain⟨_,⟨rfl,_⟩| ⟨g,cap,cur,rfl,_,hg,_⟩⟩:=h
 ·simp[ownL,Value.ownBlock]at hb
 ·simp only[ownL,Value.ownBlock,Option.toList_some,zrc]at hb
  subst hb;exact(Array.getElem?_eq_some_iff.1 hg).1
def MeetPost(w:World)(v:Value)(xs ys:List Int)(e:Ending)(w':World):Prop:=
 ∃v',e=.returned v'∧SlInts w' v' (xs++ys)∧Only (ownL v) w w'∧(∀b∈ownL v',b∈ownL v∨w.heap.size≤b)
def BoxAt(w:World)(k:Nat)(q:Bx):Prop:=w.heap[k]? =some (.cells #[J U q.x0,J U q.x1,J U q.x2,J U q.x3,J U q.x4,J U q.x5] 57)
theorem BoxAt.off(h:BoxAt w b q)(i:Nat):w.cell? (Y b i)=(#[I q.x0,I q.x1,I q.x2,I q.x3,I q.x4,I q.x5]:Array Value)[i]? :=by
 unfold BoxAt at h;simp[World.cell?,h]
theorem BoxAt.lt(h:BoxAt w b q):b<w.heap.size:=(Array.getElem?_eq_some_iff.1 h).1
theorem Only.box(h:Only D w w')(s:b∉D)(k:BoxAt w b q):BoxAt w' b q:=(h.block b k.lt s).trans k
def MK(b:Nat)(o:Nat)(r:Bx)(k:Nat)(q:Bx)(w w':World):Prop:=Kept w w'∧w'.cell? ⟨b,o,none⟩=some (J U r.x0)∧w'.cell? ⟨b,o+1,none⟩=some (J U r.x1)∧w'.cell? ⟨b,o+2,none⟩=some (J U r.x2)∧w'.cell? ⟨b,o+3,none⟩=some (J U r.x3)∧w'.cell? ⟨b,o+4,none⟩=some (J U r.x4)∧w'.cell? ⟨b,o+5,none⟩=some (J U r.x5)∧w'.cell? ⟨k,0,none⟩=some (J U q.x0)∧w'.cell? ⟨k,1,none⟩=some (J U q.x1)∧w'.cell? ⟨k,2,none⟩=some (J U q.x2)∧w'.cell? ⟨k,3,none⟩=some (J U q.x3)∧w'.cell? ⟨k,4,none⟩=some (J U q.x4)∧w'.cell? ⟨k,5,none⟩=some (J U q.x5)
theorem MK.step{o:Nat}{r:Bx}{w1:World}(kk:Kept w1 w2)(h:MK b o r k q w w1):MK b o r k q w w2:=by
 obtain⟨h0,h1,h2,h3,h4,h5,h6,h7,h8,h9,h10,h11,h12⟩:=h;exact⟨h0.trans kk,y00 kk h1,y00 kk h2,y00 kk h3,y00 kk h4,y00 kk h5,y00 kk h6,y00 kk h7,y00 kk h8,y00 kk h9,y00 kk h10,y00 kk h11,y00 kk h12⟩
theorem MK.room{w:World}{b:Nat}{n:Nd}{k:Nat}{q:Bx}(h:NodeAt w b n)(hq:BoxAt w k q):MK b 7 n.room k q w w.drew:=
 ⟨kd,h.c7,h.c8,h.c9,h.c10,h.c11,h.c12,hq.off 0,hq.off 1,hq.off 2,hq.off 3,hq.off 4,hq.off 5⟩
theorem MK.box{w:World}{b:Nat}{n:Nd}{k:Nat}{q:Bx}(h:NodeAt w b n)(hq:BoxAt w k q):MK b 1 n.box k q w w.drew:=
 ⟨kd,h.c1,h.c2,h.c3,h.c4,h.c5,h.c6,hq.off 0,hq.off 1,hq.off 2,hq.off 3,hq.off 4,hq.off 5⟩
theorem In.apart{w:World}{v:Value}{xs:List Int}(h:SlInts w v xs):∀{T:Tr} {u:Option Nat},In w u T→∀b∈T.blocks,b∉ownL v
 | ⟨_,.inl (_,_,_)⟩,_,k,b,hb=>by simp only[Tr.blocks,zrc]at hb;rw[hb];exact h.apart k
 | ⟨_,.inr (l,r)⟩,_,k,b,hb=>by
  simp only[Tr.blocks,zrd,List.mem_append]at hb;rcases hb with rfl|hb|hb
  ·exact h.apart k.1
  ·exact In.apart h k.2.1 b hb
  ·exact In.apart h k.2.2 b hb
theorem yet(q:Bx)(v:Value)(w:World):Calls Tryz.prog 88 #[.pointer none,.agg #[I q.x0,I q.x1,I q.x2,I q.x3,I q.x4,I q.x5],v] w fun e w'=>e=.returned v∧Only [] w w':=by
 go_enter Tryz.func88,Tryz.ntmps88
 go_wp2_with fail
 have o0:Hid (Only [] w _):=(Only.refl [] w).alloc (.cells #[I q.x0,I q.x1,I q.x2,I q.x3,I q.x4,I q.x5] 57);revert o0;generalize World.alloc w _=w0;intro o0;refine wp_region_held_drew (S:=(fun w'=>Kept w0 w')) (by kernel_rfl) ?_ (fun hJ1=>?_)
 ·exact kd
 refine tkU 0 (h:=tkU 1 (h:=tkV 2 ?_));try simp only[zP]
 refine skW 3 rfl ?_;refine skW 4 rfl ?_;refine skW 5 rfl ?_;refine skW 6 rfl ?_;try simp only[zP]
 refine skW 7 rfl ?_;refine skW 8 rfl ?_;refine skW 9 rfl ?_;try simp only[zP]
 refine tkV 10 ?_;try simp only[zP]
 refine wpAnyH_done (by kernel_rfl) ?_ _;go_wp2_with fail
 go_ret
 exact⟨rfl,o0.out.trans (.of_kept kd)⟩
theorem yiv{T:Tr}(h:meetX T.room q=false):meetIds q T=[]:=by
 cases T using Tr.cs with
 |leaf=>simp only[meetIds,Tr.room]at*;simp[h]
 |node=>simp only[meetIds,Tr.room]at*;simp[h]
theorem y75(T:Tr)(up:Option Nat)(q:Bx)(v:Value)(w:World)(hi:In w up T)(hm:meetX T.room q=false):Calls Tryz.prog 88 #[.pointer (some (Y T.root 0)),.agg #[I q.x0,I q.x1,I q.x2,I q.x3,I q.x4,I q.x5],v] w fun e w'=>e=.returned v∧Only [] w w':=by
 have HI:Hid (In w up T):=hi;clear hi;unfold meetX at hm;obtain⟨R,hR⟩:∃R,R=T.room:=⟨_,rfl⟩;rw[←hR]at hm;have HR:Hid (R=T.room):=hR;clear hR;obtain⟨B,hB⟩:∃B,B=T.root:=⟨_,rfl⟩;rw[←hB];have HB:Hid (B=T.root):=hB;clear hB;go_enter Tryz.func88,Tryz.ntmps88
 go_wp2_with fail
 have o0:Hid (Only [] w _∧BoxAt _ w.heap.size q):=⟨(Only.refl [] w).alloc (.cells #[I q.x0,I q.x1,I q.x2,I q.x3,I q.x4,I q.x5] 57),(MapKept.heap_alloc w _).1⟩;revert o0;generalize World.alloc w _=w0;generalize hkk:w.heap.size=k;have HW:Hid (w.heap.size=k):=hkk;clear hkk;intro o0;have HI0:Hid (In w0 up (T)):=HI.out.only o0.out.1 (by simp);refine wp_region_held_drew (S:=(fun w'=>Kept w0 w'∧Zc w' B 7 R.x0∧Zc w' B 8 R.x1∧Zc w' B 9 R.x2∧Zc w' B 10 R.x3∧Zc w' B 11 R.x4∧Zc w' B 12 R.x5∧Zc w' k 0 q.x0∧Zc w' k 1 q.x1∧Zc w' k 2 q.x2∧Zc w' k 3 q.x3∧Zc w' k 4 q.x4∧Zc w' k 5 q.x5)) (by kernel_rfl) ?_ (fun hJ1=>?_)
 ·exact(by have:=MK.room HI0.out.node o0.out.2;rw[y3w,←HR.out,←HB.out]at this;exact this)
 refine tkU 0 (h:=tkU 1 (h:=tkU 2 (h:=tkV 3 ?_)));try simp only[zP]
 refine tkU 4 (h:=tkU 5 (h:=tkU 6 (h:=tkV 7 ?_)));try simp only[zP]
 refine rdW 8 rfl fun K hK=>?_;simp only[zQ];go_simp
 (go_at_call 131;refine(y17 _ _ _ _ _ _ _ _ _ _ _ _ _).mono ?_;rintro e w1 ⟨rfl,k1⟩)
 try go_wp2_with fail
 refine hK.out _ _ ?_ fun hJ2=>?_
 ·exact MK.step k1 hJ1
 clear hK K hJ1;try simp only[zP]
 refine tkU 9 (h:=tkV 10 ?_);try simp only[zP]
 refine wpAnyH_done (by kernel_rfl) ?_ _;have HK:Hid (Kept w0 w1):=hJ2.1;clear hJ2;go_wp2_with fail
 go_ret
 exact⟨rfl,o0.out.1.trans (.of_kept HK.out)⟩
theorem intInfo:(Tryz.prog.info? 3).map (fun i=>(i.zero,i.size,i.bytes))=some (some (I 0),1,8):=by kernel_rfl
theorem ygd{w3:World}{v':Value}{id:Int}{T:TypeId}(o:Only [] w w2)(hown:w3.ownsRow 0 3 1 v' (xs.length+1) (xs.map (Value.int .i64)++[I id]))(hgrow:(w2.alloc (.cells #[I id] T)).grownBy w3 v.ownBlock)
  (hloc:v'.ownBlock=v.ownBlock∨v'.ownBlock=some (w2.alloc (.cells #[I id] T)).heap.size):Hid (MeetPost w v xs [id] (.returned v') w3):=by
 refine⟨v',rfl,?_,?_,?_⟩
 ·unfold SlInts;rw[List.map_append,List.length_append];exact hown
 ·refine((o.mono (by simp)).alloc _).grown hgrow (fun k hk=>Or.inl ?_)
  simp[ownL,hk]
 ·intro x hx
  rcases hloc with e|e
  ·left;simpa[ownL,e]using hx
  ·right
   simp only[ownL,e,Option.toList_some,zrc]at hx;have:=o.size;simp at hx;omega
theorem yg3(b:Nat)(id:Int)(box room:Bx)(up:Option Nat)(q:Bx)(v:Value)(xs:List Int)(w:World)(hi:In w up (.leaf b id box room))(hv:SlInts w v xs)(hl:xs.length≤1000)(hm:meetX room q=true)(hb:meetX box q=false):
  Calls Tryz.prog 88 #[.pointer (some (Y ((Tr.leaf b id box room).root) 0)),.agg #[I q.x0,I q.x1,I q.x2,I q.x3,I q.x4,I q.x5],v] w fun e w'=>e=.returned v∧Only [] w w':=by
 have HI:Hid (In w up (.leaf b id box room)∧SlInts w v xs∧xs.length≤1000):=⟨hi,hv,hl⟩;clear hi hv hl;unfold meetX at hm hb;simp only[y7t];go_enter Tryz.func88,Tryz.ntmps88
 go_wp2_with fail
 have o0:Hid (Only [] w _∧BoxAt _ w.heap.size q):=⟨(Only.refl [] w).alloc (.cells #[I q.x0,I q.x1,I q.x2,I q.x3,I q.x4,I q.x5] 57),(MapKept.heap_alloc w _).1⟩;revert o0;generalize World.alloc w _=w0;generalize hkk:w.heap.size=k;have HW:Hid (w.heap.size=k):=hkk;clear hkk;intro o0;have HI0:Hid (In w0 up (.leaf b id box room)):=HI.out.1.only o0.out.1 (by simp);refine wp_region_held_drew (S:=(fun w'=>Kept w0 w'∧Zc w' b 7 room.x0∧Zc w' b 8 room.x1∧Zc w' b 9 room.x2∧Zc w' b 10 room.x3∧Zc w' b 11 room.x4∧Zc w' b 12 room.x5∧Zc w' k 0 q.x0∧Zc w' k 1 q.x1∧Zc w' k 2 q.x2∧Zc w' k 3 q.x3∧Zc w' k 4 q.x4∧Zc w' k 5 q.x5)) (by kernel_rfl) ?_ (fun hJ1=>?_)
 ·exact MK.room HI0.out.node o0.out.2
 refine tkU 0 (h:=tkU 1 (h:=tkU 2 (h:=tkV 3 ?_)));try simp only[zP]
 refine tkU 4 (h:=tkU 5 (h:=tkU 6 (h:=tkV 7 ?_)));try simp only[zP]
 refine rdW 8 rfl fun K hK=>?_;simp only[zQ];go_simp
 (go_at_call 131;refine(y17 _ _ _ _ _ _ _ _ _ _ _ _ _).mono ?_;rintro e w1 ⟨rfl,k1⟩)
 try go_wp2_with fail
 refine hK.out _ _ ?_ fun hJ2=>?_
 ·exact MK.step k1 hJ1
 clear hK K hJ1;try simp only[zP]
 refine tkU 9 (h:=tkV 10 ?_);try simp only[zP]
 refine wpAnyH_done (by kernel_rfl) ?_ _;have HK:Hid (Kept w0 w1):=hJ2.1;clear hJ2;have c13:w1.cell? (Y b 13)=some (I 0):=(HI0.out.node.kept HK.out).c13;have HB1:Hid (BoxAt w1 k q):=(Only.of_kept (D:=[]) HK.out).box (by simp) o0.out.2;have HN1:Hid (NodeAt w1 b ((Tr.leaf b id box room).nd up)):=HI0.out.node.kept HK.out;go_wp2_with fail
 clear c13;refine wp_region_held_drew (S:=(fun w'=>Kept w1 w'∧Zc w' b 1 box.x0∧Zc w' b 2 box.x1∧Zc w' b 3 box.x2∧Zc w' b 4 box.x3∧Zc w' b 5 box.x4∧Zc w' b 6 box.x5∧Zc w' k 0 q.x0∧Zc w' k 1 q.x1∧Zc w' k 2 q.x2∧Zc w' k 3 q.x3∧Zc w' k 4 q.x4∧Zc w' k 5 q.x5)) (by kernel_rfl) ?_ (fun hJ1=>?_)
 ·exact MK.box HN1.out HB1.out
 refine tkU 0 (h:=tkU 1 (h:=tkU 2 (h:=tkV 3 ?_)));try simp only[zP]
 refine tkV 4 ?_;try simp only[zP]
 refine rdW 5 rfl fun K hK=>?_;simp only[zQ];go_simp
 (go_at_call 131;refine(y17 _ _ _ _ _ _ _ _ _ _ _ _ _).mono ?_;rintro e w2 ⟨rfl,k2⟩)
 try go_wp2_with fail
 refine hK.out _ _ ?_ fun hJ2=>?_
 ·exact MK.step k2 hJ1
 clear hK K hJ1;try simp only[zP]
 refine wpAnyH_done (by kernel_rfl) ?_ _;have HK2:Hid (Only [] w w2∧NodeAt w2 b ((Tr.leaf b id box room).nd up)):=⟨(o0.out.1.trans (.of_kept HK.out)).trans (.of_kept hJ2.1),HN1.out.kept hJ2.1⟩;clear hJ2;go_wp2_with fail
 go_ret
 exact⟨rfl,HK2.out.1⟩
theorem yio(b:Nat)(id:Int)(box room:Bx)(up:Option Nat)(q:Bx)(v:Value)(xs:List Int)(w:World)(hi:In w up (.leaf b id box room))(hv:SlInts w v xs)(hl:xs.length≤1000)(hm:meetX room q=true)(hb:meetX box q=true):
  Calls Tryz.prog 88 #[.pointer (some (Y ((Tr.leaf b id box room).root) 0)),.agg #[I q.x0,I q.x1,I q.x2,I q.x3,I q.x4,I q.x5],v] w (MeetPost w v xs [id]):=by
 obtain⟨i0,hi0,hz0,hz1,hz2⟩:=info_parts intInfo;have HI:Hid (In w up (.leaf b id box room)∧SlInts w v xs∧xs.length≤1000):=⟨hi,hv,hl⟩;clear hi hv hl;unfold meetX at hm hb;simp only[y7t];go_enter Tryz.func88,Tryz.ntmps88
 go_wp2_with fail
 have o0:Hid (Only [] w _∧BoxAt _ w.heap.size q):=⟨(Only.refl [] w).alloc (.cells #[I q.x0,I q.x1,I q.x2,I q.x3,I q.x4,I q.x5] 57),(MapKept.heap_alloc w _).1⟩;revert o0;generalize World.alloc w _=w0;generalize hkk:w.heap.size=k;have HW:Hid (w.heap.size=k):=hkk;clear hkk;intro o0;have HI0:Hid (In w0 up (.leaf b id box room)):=HI.out.1.only o0.out.1 (by simp);refine wp_region_held_drew (S:=(fun w'=>Kept w0 w'∧Zc w' b 7 room.x0∧Zc w' b 8 room.x1∧Zc w' b 9 room.x2∧Zc w' b 10 room.x3∧Zc w' b 11 room.x4∧Zc w' b 12 room.x5∧Zc w' k 0 q.x0∧Zc w' k 1 q.x1∧Zc w' k 2 q.x2∧Zc w' k 3 q.x3∧Zc w' k 4 q.x4∧Zc w' k 5 q.x5)) (by kernel_rfl) ?_ (fun hJ1=>?_)
 ·exact MK.room HI0.out.node o0.out.2
 refine tkU 0 (h:=tkU 1 (h:=tkU 2 (h:=tkV 3 ?_)));try simp only[zP]
 refine tkU 4 (h:=tkU 5 (h:=tkU 6 (h:=tkV 7 ?_)));try simp only[zP]
 refine rdW 8 rfl fun K hK=>?_;simp only[zQ];go_simp
 (go_at_call 131;refine(y17 _ _ _ _ _ _ _ _ _ _ _ _ _).mono ?_;rintro e w1 ⟨rfl,k1⟩)
 try go_wp2_with fail
 refine hK.out _ _ ?_ fun hJ2=>?_
 ·exact MK.step k1 hJ1
 clear hK K hJ1;try simp only[zP]
 refine tkU 9 (h:=tkV 10 ?_);try simp only[zP]
 refine wpAnyH_done (by kernel_rfl) ?_ _;have HK:Hid (Kept w0 w1):=hJ2.1;clear hJ2;have c13:w1.cell? (Y b 13)=some (I 0):=(HI0.out.node.kept HK.out).c13;have HB1:Hid (BoxAt w1 k q):=(Only.of_kept (D:=[]) HK.out).box (by simp) o0.out.2;have HN1:Hid (NodeAt w1 b ((Tr.leaf b id box room).nd up)):=HI0.out.node.kept HK.out;go_wp2_with fail
 clear c13;refine wp_region_held_drew (S:=(fun w'=>Kept w1 w'∧Zc w' b 1 box.x0∧Zc w' b 2 box.x1∧Zc w' b 3 box.x2∧Zc w' b 4 box.x3∧Zc w' b 5 box.x4∧Zc w' b 6 box.x5∧Zc w' k 0 q.x0∧Zc w' k 1 q.x1∧Zc w' k 2 q.x2∧Zc w' k 3 q.x3∧Zc w' k 4 q.x4∧Zc w' k 5 q.x5)) (by kernel_rfl) ?_ (fun hJ1=>?_)
 ·exact MK.box HN1.out HB1.out
 refine tkU 0 (h:=tkU 1 (h:=tkU 2 (h:=tkV 3 ?_)));try simp only[zP]
 refine tkV 4 ?_;try simp only[zP]
 refine rdW 5 rfl fun K hK=>?_;simp only[zQ];go_simp
 (go_at_call 131;refine(y17 _ _ _ _ _ _ _ _ _ _ _ _ _).mono ?_;rintro e w2 ⟨rfl,k2⟩)
 try go_wp2_with fail
 refine hK.out _ _ ?_ fun hJ2=>?_
 ·exact MK.step k2 hJ1
 clear hK K hJ1;try simp only[zP]
 refine wpAnyH_done (by kernel_rfl) ?_ _;have HK2:Hid (Only [] w w2∧NodeAt w2 b ((Tr.leaf b id box room).nd up)):=⟨(o0.out.1.trans (.of_kept HK.out)).trans (.of_kept hJ2.1),HN1.out.kept hJ2.1⟩;clear hJ2;have c0:w2.cell? (Y b 0)=some (I id):=HK2.out.2.c0;have hs:=HI.out.2.1.kept HK2.out.1 (by simp);have hx:=HI.out.2.2;go_wp2_with (first| (at_builtin;refine wpList_append_own_at _ rfl _ _ 58 rfl 0 3 i0 (I 0) 1 8 Tryz.underlying58 hi0 hz0 hz1 hz2 rfl (by decide) v xs.length (xs.map (Value.int .i64)) rfl (World.ownsRow.alloc hs _) (Y w2.heap.size 0) 1 1 [I id] rfl rfl (cell_one_new _ _ _) (by simp[Value.oneCell']) (by unfold maxLen;omega) (by omega) (by simp) ?_;intro v' w3 hown hgrow hnil hloc;have H3:=ygd HK2.out.1 hown hgrow hloc;clear hown hgrow hnil hloc c0))
 go_ret
 exact H3.out
def S4(b lr rr:Nat)(k:Nat)(q:Bx)(v:Value)(w w':World):Prop:=Only (ownL v) w w'∧w'.cell? ⟨b,15,none⟩=some (.pointer (some ⟨lr,0,none⟩))∧w'.cell? ⟨b,16,none⟩=some (.pointer (some ⟨rr,0,none⟩))∧w'.cell? ⟨k,0,none⟩=some (J U q.x0)∧w'.cell? ⟨k,1,none⟩=some (J U q.x1)∧w'.cell? ⟨k,2,none⟩=some (J U q.x2)∧w'.cell? ⟨k,3,none⟩=some (J U q.x3)∧w'.cell? ⟨k,4,none⟩=some (J U q.x4)∧w'.cell? ⟨k,5,none⟩=some (J U q.x5)
theorem S4.of{lr rr:Nat}(o:Only (ownL v) w w')(hb:b∉ownL v)(hk:k∉ownL v)(hn:NodeAt w b n)(el:n.l=some lr)(er:n.r=some rr)(hq:BoxAt w k q):S4 b lr rr k q v w w':=by
 have hn':=o.node hb hn;have hq':=o.box hk hq;have c15:=hn'.c15;have c16:=hn'.c16;rw[el]at c15;rw[er]at c16;exact⟨o,c15,c16,hq'.off 0,hq'.off 1,hq'.off 2,hq'.off 3,hq'.off 4,hq'.off 5⟩
def Tells(q:Bx)(T:Tr):Prop:=∀(w:World) (u:Option Nat) (v:Value) (xs:List Int),In w u T→SlInts w v xs→xs.length+T.leaves.length≤1000→Calls Tryz.prog 88 #[.pointer (some ⟨T.root,0,none⟩),.agg #[J U q.x0,J U q.x1,J U q.x2,J U q.x3,J U q.x4,J U q.x5],v] w (MeetPost w v xs (meetIds q T))
theorem ydd(b:Nat)(l r:Tr)(q:Bx)(hl:Tells q l)(hr:Tells q r)(w:World)(up:Option Nat)(v:Value)(xs:List Int)(hi:In w up (.node b l r))(hv:SlInts w v xs)(hx:xs.length+(Tr.node b l r).leaves.length≤1000)(hm:meetX (Tr.node b l r).room q=true):
  Calls Tryz.prog 88 #[.pointer (some (Y ((Tr.node b l r).root) 0)),.agg #[I q.x0,I q.x1,I q.x2,I q.x3,I q.x4,I q.x5],v] w (MeetPost w v xs (meetIds q (.node b l r))):=by
 have HI:Hid (In w up (.node b l r)∧SlInts w v xs∧xs.length+(l.leaves.length+r.leaves.length)≤1000):=⟨hi,hv,by simpa[Tr.leaves]using hx⟩
 have HM:Hid (meetIds q (.node b l r)=meetIds q l++meetIds q r):=by
  show meetIds q (.node b l r)=_;simp only[yd7]at hm;simp only[meetIds,hm,if_true]
 have HL:Hid (Tells q l):=hl;have HR2:Hid (Tells q r):=hr;clear hi hv hl hr hx;unfold meetX at hm;simp only[y8u];obtain⟨R,hR⟩:∃R,R=(Tr.node b l r).room:=⟨_,rfl⟩;rw[←hR]at hm;have HR:Hid (R=(Tr.node b l r).room):=hR;clear hR;generalize hlr:l.root=lr;generalize hrr:r.root=rr;have HLR:Hid (l.root=lr∧r.root=rr):=⟨hlr,hrr⟩;clear hlr hrr;rw[HM.out];go_enter Tryz.func88,Tryz.ntmps88
 go_wp2_with fail
 have o0:Hid (Only [] w _∧BoxAt _ w.heap.size q):=⟨(Only.refl [] w).alloc (.cells #[I q.x0,I q.x1,I q.x2,I q.x3,I q.x4,I q.x5] 57),(MapKept.heap_alloc w _).1⟩;revert o0;generalize World.alloc w _=w0;generalize hkk:w.heap.size=k;have HW:Hid (w.heap.size=k):=hkk;clear hkk;intro o0;have HI0:Hid (In w0 up (.node b l r)):=HI.out.1.only o0.out.1 (by simp);refine wp_region_held_drew (S:=(fun w'=>Kept w0 w'∧Zc w' b 7 R.x0∧Zc w' b 8 R.x1∧Zc w' b 9 R.x2∧Zc w' b 10 R.x3∧Zc w' b 11 R.x4∧Zc w' b 12 R.x5∧Zc w' k 0 q.x0∧Zc w' k 1 q.x1∧Zc w' k 2 q.x2∧Zc w' k 3 q.x3∧Zc w' k 4 q.x4∧Zc w' k 5 q.x5)) (by kernel_rfl) ?_ (fun hJ1=>?_)
 ·exact(by have:=MK.room HI0.out.node o0.out.2;rw[y3w,←HR.out]at this;exact this)
 refine tkU 0 (h:=tkU 1 (h:=tkU 2 (h:=tkV 3 ?_)));try simp only[zP]
 refine tkU 4 (h:=tkU 5 (h:=tkU 6 (h:=tkV 7 ?_)));try simp only[zP]
 refine rdW 8 rfl fun K hK=>?_;simp only[zQ];go_simp
 (go_at_call 131;refine(y17 _ _ _ _ _ _ _ _ _ _ _ _ _).mono ?_;rintro e w1 ⟨rfl,k1⟩)
 try go_wp2_with fail
 refine hK.out _ _ ?_ fun hJ2=>?_
 ·exact MK.step k1 hJ1
 clear hK K hJ1;try simp only[zP]
 refine tkU 9 (h:=tkV 10 ?_);try simp only[zP]
 refine wpAnyH_done (by kernel_rfl) ?_ _;have HK:Hid (Kept w0 w1):=hJ2.1;clear hJ2;have HW':Hid (k∉ownL v):=fun h=>by have h1:=HI.out.2.1.lt k h;have h2:=HW.out;omega
 have HI1:Hid (In w1 up (.node b l r)∧BoxAt w1 k q∧SlInts w1 v xs∧Only [] w w1):=⟨HI0.out.only (.of_kept (D:=[]) HK.out) (by simp),(Only.of_kept (D:=[]) HK.out).box (by simp) o0.out.2,HI.out.2.1.kept (o0.out.1.trans (.of_kept HK.out)) (by simp),o0.out.1.trans (.of_kept HK.out)⟩;have c13:=HI1.out.1.1.c13;rw[y1l]at c13;have hh:0<(Tr.node b l r).high:=by have:=y0a l;have:=y0a r;have:=y0e l.high r.high;simp only[Tr.high];omega
 have t0:decide (0<(Tr.node b l r).high)=true:=by simp[hh]
 generalize(Tr.node b l r).high=hgt at c13 hh t0;clear HK HI0 o0 HW HR HM;have HAP:Hid (∀x∈(Tr.node b l r).blocks,x∉ownL v):=In.apart HI1.out.2.2.1 HI1.out.1;go_wp2_with fail
 clear c13 t0 hh;refine wp_region_held_drew (S:=(fun w'=>Only (ownL v) w1 w'∧w'.cell? (Y b 15)=some (.pointer (some (Y lr 0)))∧w'.cell? (Y b 16)=some (.pointer (some (Y rr 0)))∧Zc w' k 0 q.x0∧Zc w' k 1 q.x1∧Zc w' k 2 q.x2∧Zc w' k 3 q.x3∧Zc w' k 4 q.x4∧Zc w' k 5 q.x5)) (by kernel_rfl) ?_ (fun hJ1=>?_)
 ·exact S4.of (Only.refl _ _).drew (HAP.out b (by simp[Tr.blocks])) HW'.out HI1.out.1.1 (congrArg some HLR.out.1) (congrArg some HLR.out.2) HI1.out.2.1
 refine tkU 0 (h:=tkU 1 (h:=tkU 2 (h:=tkV 3 ?_)));try simp only[zP]
 refine tkU 4 (h:=tkU 5 (h:=tkU 6 (h:=tkV 7 ?_)));try simp only[zP]
 refine tkU 8 (h:=tkU 9 (h:=tkU 10 (h:=tkV 11 ?_)));try simp only[zP]
 refine tkV 12 ?_;try simp only[zP]
 refine rdW 13 rfl fun K hK=>?_;simp only[zQ];go_simp
 (go_at_call 88;rw[←HLR.out.1];refine(HL.out _ (some b) v xs (by exact HI1.out.1.2.1.only (Only.refl [] w1).drew (by simp)) (by exact HI1.out.2.2.1) (by have:=HI.out.2.2;omega)).mono ?_;rintro e w2 ⟨v2,rfl,hs2,o2,hb2⟩)
 try go_wp2_with fail
 refine hK.out _ _ ?_ fun hJ2=>?_
 ·exact S4.of (((Only.refl (ownL v) w1).drew).trans o2) (HAP.out b (by simp[Tr.blocks])) HW'.out HI1.out.1.1 (congrArg some HLR.out.1) (congrArg some HLR.out.2) HI1.out.2.1
 clear hK K hJ1;try simp only[zP]
 refine rdW 14 rfl fun K hK=>?_;simp only[zQ];go_simp
 (go_at_call 88;rw[←HLR.out.2];refine(HR2.out _ (some b) v2 (xs++meetIds q l) (by exact HI1.out.1.2.2.only (((Only.refl (ownL v) w1).drew).trans o2) (fun x hx=>HAP.out x (by simp[Tr.blocks,hx]))) (by exact hs2) (by have:=HI.out.2.2;have:=y6u q l;simp only[List.length_append];omega)).mono ?_;rintro e w3 ⟨v3,rfl,hs3,o3,hb3⟩;have O3:=(((Only.refl (ownL v) w1).drew).trans o2).then o3 (fun x hx=>hb2 x hx))
 try go_wp2_with fail
 refine hK.out _ _ ?_ fun hJ3=>?_
 ·exact S4.of O3 (HAP.out b (by simp[Tr.blocks])) HW'.out HI1.out.1.1 (congrArg some HLR.out.1) (congrArg some HLR.out.2) HI1.out.2.1
 clear hK K hJ2;try simp only[zP]
 refine tkV 15 ?_;try simp only[zP]
 refine wpAnyH_done (by kernel_rfl) ?_ _;have sz:=HI1.out.2.2.2.size;have sz2:=(((Only.refl (ownL v) w1).drew).trans o2).size
 have H3:Hid (MeetPost w v xs (meetIds q l++meetIds q r) (.returned v3) w3):=by
  refine⟨v3,rfl,by rw[←List.append_assoc];exact hs3,(HI1.out.2.2.2.mono (by simp)).trans O3,fun x hx=>?_⟩;rcases hb3 x hx with h|h
  ·rcases hb2 x h with h|h
   ·exact Or.inl h
   ·exact Or.inr (Nat.le_trans sz h)
  ·exact Or.inr (by omega)
 clear hJ3 hs2 o2 hb2 hs3 o3 hb3 O3 sz sz2;go_wp2_with fail
 go_ret
 exact H3.out
theorem y2j(q:Bx):∀T:Tr,Tells q T
 | ⟨b,.inl (id,box,room)⟩=>by
  intro w u v xs hi hv hx
  cases hm:meetX room q with
  |false=>
   refine(y75 _ u q v w hi hm).mono ?_;rintro e w' ⟨rfl,o⟩;exact⟨v,rfl,by simp only[meetIds,hm,Bool.false_eq_true,if_false,List.append_nil];exact hv.kept o (by simp),o.mono (by simp),fun b hb=>Or.inl hb⟩
  |true=>
   cases hb:meetX box q with
   |false=>
    refine(yg3 b id box room u q v xs w hi hv (by omega) hm hb).mono ?_;rintro e w' ⟨rfl,o⟩;exact⟨v,rfl,by simp only[meetIds,hm,hb,Bool.false_eq_true,if_false,if_true,List.append_nil];exact hv.kept o (by simp),o.mono (by simp),fun b hb=>Or.inl hb⟩
   |true=>
    have:=yio b id box room u q v xs w hi hv (by omega) hm hb;simp only[meetIds,hm,hb,if_true];exact this
 | ⟨b,.inr (l,r)⟩=>by
  intro w u v xs hi hv hx
  cases hm:meetX (Tr.node b l r).room q with
  |false=>
   refine(y75 _ u q v w hi hm).mono ?_;rintro e w' ⟨rfl,o⟩;exact⟨v,rfl,by rw[yiv hm,List.append_nil];exact hv.kept o (by simp),o.mono (by simp),fun b hb=>Or.inl hb⟩
  |true=>exact ydd b l r q (y2j q l) (y2j q r) w u v xs hi hv hx hm
def Lf.tree(x:Lf):Tr:=.leaf x.b x.id x.box x.room
theorem ycu{w:World}{t:Nat}{fat:Int}{lv:Option Nat}(x:Lf):∀(T:Tr) (c:List Fr),In w (upOf c) T→Arnd w t fat lv c T.root→x∈T.leaves→∃c',plug c' x.tree=plug c T∧In w (upOf c') x.tree∧Arnd w t fat lv c' x.b
 | ⟨b,.inl (id,box,room)⟩,c,hi,ha,hx=>by
  simp only[Tr.leaves,zrc]at hx;subst hx;exact⟨c,rfl,hi,ha⟩
 | ⟨b,.inr (l,r)⟩,c,hi,ha,hx=>by
  simp only[Tr.leaves,List.mem_append]at hx;rcases hx with hx|hx
  ·exact ycu x l (frL b l r::c) (yav hi ha).1 (yav hi ha).2 hx
  ·exact ycu x r (frR b l r::c) (y7q hi ha).1 (y7q hi ha).2 hx
def rootO(T:Option Tr):Option Nat:=T.map Tr.root
def InO(w:World):Option Tr→Prop
 |none=>True
 |some T=>In w none T∧Bal T
def blocksO:Option Tr→List Nat
 |none=>[]
 |some T=>T.blocks
def leavesO:Option Tr→List Lf
 |none=>[]
 |some T=>T.leaves
theorem InO.only{D:List Nat}{w w':World}(o:Only D w w'){T:Option Tr}(s:∀b∈blocksO T,b∉D)(h:InO w T):InO w' T:=by
 cases T with
 |none=>trivial
 |some T=>exact⟨h.1.only o s,h.2⟩
theorem yhk(t:Nat)(fat:Int)(lv:Option Nat)(T:Option Tr)(x:Lf)(w:World)(nd:(x.b::t::blocksO T).Nodup)(hb:(leavesO T).length≤300)(hi:InO w T)(ht:TreeAt w t fat (rootO T) lv)(hy:In w none x.tree):
  Calls Tryz.prog 110 #[.pointer (some (Y t 0)),.pointer (some (Y x.b 0))] w fun e w'=>e=.returned (.tuple #[])∧∃T',InO w' (some T')∧TreeAt w' t fat (some T'.root) lv∧T'.leaves.Perm (x::leavesO T)∧(t::T'.blocks).Nodup∧(∀b∈T'.blocks,b∈x.b::blocksO T∨w.heap.size≤b)∧Only (x.b::t::blocksO T) w w':=by
 cases T with
 |none=>
  simp only[blocksO,List.nodup_cons,zrc,List.not_mem_nil,not_false_eq_true,List.nodup_nil,and_true]at nd;refine(hang_nil t x.b fat lv w ht).mono ?_;rintro e w' ⟨rfl,ht',o⟩;refine⟨rfl,x.tree,⟨hy.only o (by simp[Lf.tree,Tr.blocks,nd]),trivial⟩,ht',List.Perm.refl _,?_,by simp[Lf.tree,Tr.blocks,blocksO],o.mono (by simp)⟩;simp[Lf.tree,Tr.blocks,Ne.symm nd]
 |some T=>
  have hl:=y2o T;simp only[leavesO]at hb;refine(yj5 t x.b x.id x.box x.room fat lv T w nd (by omega) hi.1 ht hy).mono ?_;rintro e w' ⟨rfl,c,b,id',box',room',j,hp,hj,hi',ht',o⟩;have bal:=hi.2;have p1:=y48 c (.node j (.leaf b id' box' room') x.tree);have p2:=y5c c (.leaf b id' box' room');have p3:=y41 c (.node j (.leaf b id' box' room') x.tree);have p4:=y3m c (.leaf b id' box' room');rw[hp]at p2 p4
  have p5:(mendT c (.node j (.leaf b id' box' room') x.tree)).blocks.Perm (j::x.b::T.blocks):=by
   refine p3.trans (List.Perm.trans ?_ (List.Perm.cons _ (List.Perm.cons _ p4.symm)));simp only[Tr.blocks,Lf.tree,List.cons_append,List.nil_append,List.append_assoc];grind
  have hlt:∀b∈x.b::t::T.blocks,b<w.heap.size:=by
   intro b hb;simp only[zrd]at hb;rcases hb with rfl|rfl|hb
   ·exact NodeAt.lt hy
   ·exact ht.lt
   ·exact hi.1.lt b hb
  refine⟨rfl,mendT c (.node j (.leaf b id' box' room') x.tree),⟨hi',?_⟩,ht',?_,?_,?_,o⟩
  ·refine y8x c (.leaf b id' box' room') _ (by rw[hp];exact bal) ⟨trivial,trivial,?_,?_⟩ ?_ ?_<;>simp only[Lf.tree,Tr.high]<;>(try unfold greater)<;>(try split)<;>omega
  ·refine p1.trans (List.Perm.trans ?_ (List.Perm.cons _ p2.symm))
   simp only[Tr.leaves,Lf.tree,List.cons_append,List.nil_append];exact List.Perm.swap _ _ _
  ·refine(List.Perm.cons t p5).symm.nodup ?_
   have hjn:j∉x.b::t::T.blocks:=fun h=>by have:=hlt j h;omega
   simp only[blocksO,List.nodup_cons,zrd,not_or]at nd hjn⊢;exact⟨⟨Ne.symm hjn.2.1,Ne.symm nd.1.1,nd.2.1⟩,⟨hjn.1,hjn.2.2⟩,nd.1.2,nd.2.2⟩
  ·intro b hb
   have:=p5.mem_iff.1 hb;simp only[zrd,blocksO]at this⊢;rcases this with rfl|h
   ·exact Or.inr hj
   ·exact Or.inl h
theorem y3a{T:Tr}{x:Lf}(h:x∈T.leaves):x.b∈T.blocks:=by
 induction T using Tr.ind with
 |leaf=>simp only[Tr.leaves,zrc]at h;subst h;simp[Tr.blocks]
 |node b l r hl hr=>simp only[Tr.leaves,List.mem_append]at h;simp only[Tr.blocks,zrd,List.mem_append];rcases h with h|h;exact Or.inr (Or.inl (hl h));exact Or.inr (Or.inr (hr h))
theorem y79(t:Nat)(fat:Int)(lv:Option Nat)(T:Tr)(x:Lf)(w:World)(nd:(t::T.blocks).Nodup)(hb:T.leaves.length≤300)(hi:InO w (some T))(ht:TreeAt w t fat (some T.root) lv)(hx:x∈T.leaves):
  Calls Tryz.prog 72 #[.pointer (some (Y t 0)),.pointer (some (Y x.b 0))] w fun e w'=>e=.returned (.tuple #[])∧∃T':Option Tr,InO w' T'∧TreeAt w' t fat (rootO T') lv∧T.leaves.Perm (x::leavesO T')∧(t::blocksO T').Nodup∧(∀b∈blocksO T',b∈T.blocks)∧x.b∉blocksO T'∧Only (t::T.blocks) w w':=by
 obtain⟨c,hp,hx',ha⟩:=ycu x T [] hi.1 ht hx;have bal:=hi.2;simp only[plug]at hp;have p2:=y5c c x.tree;have p4:=y3m c x.tree;rw[hp]at p2 p4
 cases c with
 |nil=>
  simp only[plug]at hp;refine(yi9 t x.b _ fat _ lv w rfl hx' ht).mono ?_;rintro e w' ⟨rfl,ht',o⟩;refine⟨rfl,none,trivial,ht',?_,by simp[blocksO],by simp[blocksO],by simp[blocksO],o.mono (by simp)⟩;rw[←hp];exact List.Perm.refl _
 |cons f c=>
  have p6:(t::T.blocks).Perm (x.b::f.b::(f.sib.blocks++(t::cblocks c))):=by
   refine(List.Perm.cons _ p4).trans ?_;simp only[Tr.blocks,Lf.tree,cblocks,List.cons_append,List.nil_append];grind
  have nd2:=p6.nodup nd;have hl:=y2o T;have hlen:=p6.length_eq;simp only[List.length_cons,List.length_append]at hlen;refine(yfx t x.b x.id x.box x.room fat lv f c w nd2 (by simp only[List.length_append,List.length_cons];omega) hx' ha).mono ?_;rintro e w' ⟨rfl,hi',ht',o⟩;have p1:=y48 c f.sib;have p3:=y41 c f.sib
  have p7:(t::(mendT c f.sib).blocks).Perm (f.sib.blocks++(t::cblocks c)):=by
   refine(List.Perm.cons _ p3).trans ?_;exact List.perm_middle.symm
  have nd3:(f.sib.blocks++(t::cblocks c)).Nodup:=(List.nodup_cons.1 (List.nodup_cons.1 nd2).2).2;refine⟨rfl,some (mendT c f.sib),⟨hi',?_⟩,ht',?_,p7.symm.nodup nd3,?_,?_,o.mono (fun b hb=>Or.inl (p6.mem_iff.2 (List.mem_cons_of_mem _ hb)))⟩
  ·have hb2:Bal (plug c (f.fill x.tree)):=by rw[show plug c (f.fill x.tree)=T from hp];exact bal
   have hb3:=ybz c _ hb2;have hs:=y0a f.sib;have hsb:Bal f.sib:=by unfold Fr.fill at hb3;split at hb3;exact hb3.2.1;exact hb3.1
   have hh:(f.fill x.tree).high=1+f.sib.high:=by
    unfold Fr.fill;split<;>simp only[Tr.high,Lf.tree]
    ·have:=y0e 0 f.sib.high;omega
    ·have:=y0e f.sib.high 0;omega
   exact y8x c (f.fill x.tree) f.sib hb2 hsb (by omega) (by omega)
  ·refine p2.trans ?_
   simp only[Tr.leaves,Lf.tree,cleaves,List.cons_append,List.nil_append];exact List.Perm.cons _ p1.symm
  ·intro b hb
   have h1:b∈t::(mendT c f.sib).blocks:=List.mem_cons_of_mem _ hb;have h2:=p6.mem_iff.2 (List.mem_cons_of_mem x.b (List.mem_cons_of_mem f.b (p7.mem_iff.1 h1)));rcases zrd.1 h2 with e|h2
   ·have h3:=p7.symm.nodup nd3
    rw[List.nodup_cons]at h3;exact absurd (e▸hb) h3.1
   ·exact h2
  ·intro hb
   have h1:x.b∈t::(mendT c f.sib).blocks:=List.mem_cons_of_mem _ hb;exact(List.nodup_cons.1 nd2).1 (List.mem_cons_of_mem _ (p7.mem_iff.1 h1))
end Go.Proofs.YtbenlgandjjopaaGreatDoor
