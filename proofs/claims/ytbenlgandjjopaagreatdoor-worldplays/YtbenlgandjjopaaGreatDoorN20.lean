/- . -/
import Derived.Test.YtbenlgandjjopaaGreatDoorN19
import Derived.Deep.Light
import Derived.Test.YtbenlgandjjopaaGreatDoorLay
open Go.Value renaming int → J
open Go.IntKind renaming i64 → U
open List renaming mem_singleton → zrc,mem_cons → zrd
namespace Go.Proofs.YtbenlgandjjopaaGreatDoor
set_option maxRecDepth 100000
set_option maxHeartbeats 4000000
open Go.ChangeShapes Go.WideShapes Go.ChangeAt Go.RowKit
open Go.Maps (Keyed)
set_option linter.unusedVariables false
set_option linter.unusedSimpArgs false
variable {w w' wr w2 : World} {c : Wc} {g t n x kb j ta tb cap : Nat} {a : Option Addr} {v v3 : Value} {i yj fa fb la st : Int} {ys : List Int} {E D D' : List Nat} {C B : Nat → Bd}
def PS (t rt zb : Nat) (q : Bx) (w w' : World) : Prop := Only [] w w' ∧ w'.cell? ⟨t,1,none⟩ = some (.pointer (some ⟨rt,0,none⟩)) ∧ w'.cell? ⟨zb,1,none⟩ = some (J U q.x0) ∧ w'.cell? ⟨zb,2,none⟩ = some (J U q.x1) ∧ w'.cell? ⟨zb,3,none⟩ = some (J U q.x2) ∧ w'.cell? ⟨zb,4,none⟩ = some (J U q.x3) ∧ w'.cell? ⟨zb,5,none⟩ = some (J U q.x4) ∧ w'.cell? ⟨zb,6,none⟩ = some (J U q.x5)
theorem PS.of {zb : Nat} {fat : Int} {rt : Nat} {lv : Option Nat} {n : Nd} (o : Only [] w w') (ht : TreeAt w t fat (some rt) lv) (hz : NodeAt w zb n) : PS t rt zb n.box w w' := by
 have h1 := o.tree (by simp) ht;have h2 := o.node (by simp) hz;exact ⟨o,h1.c1,h2.c1,h2.c2,h2.c3,h2.c4,h2.c5,h2.c6⟩
theorem yd3 (v : Value) (y : DataW Unit × List MemPlace) (h : nodeElem v = some y) : ∃ c,v = ptr c := by
 unfold nodeElem at h;split at h
 ·exact ⟨none,rfl⟩
 ·exact ⟨some _,rfl⟩
 ·cases h
theorem key_int (k : Value) (kl : Lit) (h : keyOf Tryz.prog 3 k = some kl) : ∃ x,k = Value.int .i64 x := by
 obtain ⟨x,rfl,_⟩ := Maps.keyOf_int_inv Tryz.underlying3 h;exact ⟨x,rfl⟩
theorem PL.came {w1 : World} {L : List Lf} {m r : Nat} {MD : DataW Unit} {cnt cnt1 : Nat} {dn rem : List Lf} {left : Lit → Bool} (h : PL w L m r MD cnt v dn rem left wr) (hb : Book MD L) {x : Int} {c : Option Nat} {kl : Lit} {y : DataW Unit × List MemPlace}
  (hkey : keyOf Tryz.prog 3 (Value.int .i64 x) = some kl) (hlk : left kl = true) (hv : nodeElem (ptr c) = some y) (hat : ∀ zd,MD.atKey kl zd = y.1) (hrg : w1.ranges Tryz.prog 3 nodeElem m r L.length MD (fun z => left z && !z.sameKey kl) cnt1) (hg : wr.grownBy w1 (some r)) :
  ∃ z rem',z.id = x ∧ c = some z.b ∧ z ∈ L ∧ L.Perm ((dn ++ [z]) ++ rem') ∧ (∀ i,(fun z => left z && !z.sameKey kl) (key i) = true ↔ i ∈ rem'.map Lf.id) ∧ SlPairs w1 v (dn.flatMap (pairsAt L)) ∧ Only [] w w1 := by
 obtain ⟨x',ex,rfl,hwx⟩ := Maps.keyOf_int_inv Tryz.underlying3 hkey;injection ex with _ ex; subst ex
 obtain ⟨z,hz,hzi⟩ := List.mem_map.1 ((h.lft x).1 hlk);obtain ⟨rem',hp⟩ := yd2 hz;have hzL : z ∈ L := h.perm.mem_iff.2 (List.mem_append_right _ hz);have ap := y73 h.rng h.sl;have o1 : Only [r] wr w1 := (Only.refl [r] wr).grown hg (fun k hk => by injection hk with hk; exact Or.inl (by simp [hk]))
 have hc : c = some z.b := by
  have h1 := hb.there z hzL;rw [hzi,hat .nil] at h1;obtain ⟨y1,y2⟩ := y;simp only at h1;subst h1;have := y65 hv
  cases c with
  | none => cases this
  | some b => simp only [y0t,Value.pointer.injEq,Option.some.injEq,Addr.mk.injEq,and_true] at this; rw [this]
 refine ⟨z,rem',hzi,hc,hzL,?_,fun i => ?_,h.sl.kept o1 (fun b hb' => by simp; exact fun e => ap.2 (e ▸ hb')),h.only.then o1 (fun b hb' => by simp at hb'; subst hb'; exact Or.inr h.rnew)⟩
 ·refine h.perm.trans ((List.Perm.append_left dn hp).trans ?_)
  simp
 ·have hn : (rem.map Lf.id).Nodup := ((h.perm.map Lf.id).nodup hb.nodup |> fun q => by rw [List.map_append] at q; exact (List.nodup_append.1 q).2.1)
  have hn2 := (hp.map Lf.id).nodup hn;simp only [List.map_cons,List.nodup_cons] at hn2;simp only [Bool.and_eq_true,Bool.not_eq_true',h.lft i,ygc,(hp.map Lf.id).mem_iff,List.map_cons,zrd,decide_eq_false_iff_not];rw [hzi];constructor
  ·rintro ⟨q | q,hne⟩
   ·exact absurd q hne
   ·exact q
  ·intro q
   exact ⟨Or.inr q,fun e => hn2.1 (by rw [hzi,← e]; exact q)⟩
structure PI (w2 : World) (v : Value) (P0 : List (Int × Int)) (i : Int) (ys : List Int) (j : Nat) (v3 : Value) (wr : World) : Prop where
 le : j ≤ ys.length
 sl : SlPairs wr v3 (P0 ++ above i (ys.take j))
 only : Only (ownL v) w2 wr
 new : ∀ b ∈ ownL v3,b ∈ ownL v ∨ w2.heap.size ≤ b
theorem PI.more {w5 : World} {v' : Value} {P0 : List (Int × Int)} (h : PI w2 v P0 i ys j v3 wr) (hj : j < ys.length) (hy : yj = ys[j]) (hi : i < yj) (p : PairPost wr v3 ((P0 ++ above i (ys.take j)) ++ [(i,yj)]) v' w5) : PI w2 v P0 i ys (j + 1) v' w5 := by
 subst hy;obtain ⟨p1,p2,p3⟩ := p;refine ⟨hj,?_,h.only.then p2 (fun b hb => h.new b hb),fun b hb => ?_⟩
 ·rw [ycn hj hi,← List.append_assoc]; exact p1
 ·rcases p3 b hb with q | q
  ·exact h.new b q
  ·exact Or.inr (Nat.le_trans h.only.size q)
theorem PI.skip {P0 : List (Int × Int)} (h : PI w2 v P0 i ys j v3 wr) (hj : j < ys.length) (hy : yj = ys[j]) (hi : ¬ i < yj) : PI w2 v P0 i ys (j + 1) v3 wr := by
 subst hy;exact ⟨hj,by rw [yc9 hj hi]; exact h.sl,h.only,h.new⟩
theorem yhj (hsort : Sorts) (t : Nat) (fat : Int) (T : Option Tr) (m : Nat) (w : World) (hw : Whole w t fat T (some m)) (hl : (leavesO T).length ≤ 60) :
  Calls Tryz.prog 57 #[.pointer (some (Y t 0))] w fun e w' => ∃ v dn,e = .returned v ∧ (leavesO T).Perm dn ∧ SlPairs w' v (sort2 (dn.flatMap (pairsAt (leavesO T)))) ∧ Only [] w w' ∧ (∀ b ∈ ownL v,w.heap.size ≤ b) := by
 have c2 := hw.tree.c2;obtain ⟨MD,hown,hbk⟩ := hw.book;obtain ⟨L,hL⟩ : ∃ L,L = leavesO T := ⟨_,rfl⟩;rw [← hL] at hown hbk hl ⊢;have HW : Hid (Whole w t fat T (some m) ∧ Book MD L ∧ L = leavesO T ∧ L.length ≤ 60) := ⟨hw,hbk,hL,hl⟩;have HS : Hid Sorts := hsort;obtain ⟨i2,hi0,hz0,hz1,hz2⟩ := info_parts pairInfo;clear hw hbk hL hl hsort;go_enter Tryz.func57,Tryz.ntmps57
 go_wp2_with (first | (at_range; refine wpList_range_own _ rfl _ 111 rfl 3 110 intKey Tryz.underlying111 _ m _ MD rfl hown ?_; intro w0 hrg0 hg0 hs0))
 go_frame
 have H0 : Hid (PL w L m w.heap.size MD (Maps.size MD) (.slice none 0 0) [] L (Maps.has MD) w0) := ⟨hrg0,List.Perm.refl _,HW.out.2.1.has,SlPairs.nil _,(Only.refl [] w).grown hg0 (fun k hk => by cases hk),by simp [ownL,Value.ownBlock],Nat.le_refl _⟩;clear hrg0 hg0 hs0 c2 hown;generalize hr : w.heap.size = r at H0 ⊢;have HR : Hid (w.heap.size = r) := hr;clear hr;go_loopg [3] (Maps.size MD) (fun k p wr => ∃ v dn rem left,v = p ∧ PL w L m r MD k v dn rem left wr)
 case atStart => exact ⟨_,_,_,_,rfl,H0.out⟩
 case round =>
  obtain ⟨v,dn,rem,left,rfl,hpl⟩ := hrel;have HP : Hid (PL w L m r MD gk v dn rem left wr) := hpl;have hrg := hpl.rng;clear hpl H0;go_wp2_with (first | (at_next; refine wpList_next_ranges _ rfl _ rfl 3 intKey nodeElem (Value.int .i64) ptr key_int yd3 m r _ MD _ _ rfl hrg ?_ ?_))
  ·intro hc0 hl0
   have HE : Hid (rem = []) := by
    cases hrm : rem with
    | nil => exact rfl
    | cons y rem => have := (HP.out.lft y.id).2 (by simp [hrm]); rw [hl0] at this; cases this
   clear hrg hl0 hc0;go_wp2_with fail
   refine (HS.out _ v _ HP.out.sl (by have := ycw HP.out.perm HW.out.2.2.2; omega)).mono ?_;rintro e w9 ⟨rfl,hs9,o9⟩;have H9 : Hid (SlPairs w9 v (sort2 (dn.flatMap (pairsAt L))) ∧ Only (ownL v) wr w9) := ⟨hs9,o9⟩;clear hs9 o9;go_wp2_with fail
   go_ret
   have hp := HP.out.perm;rw [HE.out,List.append_nil] at hp;exact ⟨v,dn,rfl,hp,H9.out.1,HP.out.only.then H9.out.2 (fun b hb => Or.inr (HP.out.new b hb)),HP.out.new⟩
  ·intro x c kl y1 y2 w1 cnt1 hkey hlk hv hat hrg1 hlt hg1 hs1 hen
   obtain ⟨z,rem',hzi,rfl,hzL,hperm,hlft,hsl1,ho1⟩ := HP.out.came HW.out.2.1 (y := (y1,y2)) hkey hlk hv hat hrg1 hg1;have H1 : Hid (w1.ranges Tryz.prog 3 nodeElem m r L.length MD (fun z => left z && !z.sameKey kl) cnt1 ∧ z.id = x ∧ z ∈ L ∧ L.Perm ((dn ++ [z]) ++ rem') ∧ (∀ i,(fun z => left z && !z.sameKey kl) (key i) = true ↔ i ∈ rem'.map Lf.id) ∧ SlPairs w1 v (dn.flatMap (pairsAt L)) ∧ Only [] w w1 ∧ cnt1 < gk) := ⟨hrg1,hzi,hzL,hperm,hlft,hsl1,ho1,hlt⟩
   obtain ⟨T1,hT1⟩ : ∃ T1,T = some T1 := by
    cases hT : T with
    | none => have := HW.out.2.2.1; rw [hT] at this; rw [this] at hzL; simp [leavesO] at hzL
    | some T1 => exact ⟨T1,rfl⟩
   simp only [y0t] at hen ⊢;have hw1 : Whole w1 t fat (some T1) (some m) := by have := HW.out.1.only ho1 (by simp); rw [hT1] at this; exact this
   have hzT : z ∈ T1.leaves := by have := HW.out.2.2.1; rw [hT1] at this; rw [this] at hzL; exact hzL
   obtain ⟨c,hz1,hxn,hz2⟩ := ycu z T1 [] hw1.inn.1 hw1.tree hzT;have HPS : Hid (∀ w',Only [] w1 w' → PS t T1.root z.b z.box w1 w') := fun w' o => PS.of o hw1.tree hxn;have HT : Hid (T = some T1 ∧ Whole w1 t fat (some T1) (some m)) := ⟨hT1,hw1⟩;clear hrg hkey hlk hv hat hrg1 hlt hg1 hs1 hzi hzL hperm hlft hsl1 ho1 hT1 hw1 hzT hz1 hxn hz2;generalize hrt : T1.root = rt at HPS;have HRT : Hid (T1.root = rt) := hrt;clear hrt;go_wp2_with fail
   clear hen;refine wp_region_held_drew (S := (fun w' => Only [] w1 w' ∧ w'.cell? (Y t 1) = some (.pointer (some (Y rt 0))) ∧ Zc w' z.b 1 z.box.x0 ∧ Zc w' z.b 2 z.box.x1 ∧ Zc w' z.b 3 z.box.x2 ∧ Zc w' z.b 4 z.box.x3 ∧ Zc w' z.b 5 z.box.x4 ∧ Zc w' z.b 6 z.box.x5)) (by kernel_rfl) ?_ (fun hJ1 => ?_)
   ·exact HPS.out _ (Only.refl _ _).drew
   refine tkU 0 (h:=tkU 1 (h:=tkU 2 (h:=tkV 3 ?_)));try simp only [zP]
   refine tkU 4 (h:=tkU 5 (h:=tkU 6 (h:=tkV 7 ?_)));try simp only [zP]
   refine tkV 10 ?_;try simp only [zP]
   refine rdW 8 rfl fun K hK => ?_;simp only [zQ];go_simp
   (go_at_call 88; rw [← HRT.out]; refine (y2j z.box T1 _ none (.slice none 0 0) [] (by exact HT.out.2.inn.1.only (Only.refl [] w1).drew (by simp)) (by exact World.ownsRow_nil _ 0 _ _) (by have h1 := HW.out.2.2.2; have h2 := HW.out.2.2.1; rw [HT.out.1] at h2; rw [h2] at h1; simp only [leavesO] at h1; simp; omega)).mono ?_; rintro e w2 ⟨v2,rfl,hs2,o2,hb2⟩; obtain ⟨a2,cp2,rfl,hsh⟩ := hs2.shape)
   try go_wp2_with fail
   refine hK.out _ _ ?_ fun hJ2 => ?_
   ·exact HPS.out _ ((Only.refl [] w1).drew.trans o2)
   clear hK K hJ1;try simp only [zP]
   refine tkV 9 ?_;try simp only [zP]
   refine wpAnyH_done (by kernel_rfl) ?_ _
   have hys : Hid (meetIds z.box T1 = idsOf z.box L) := by
    show meetIds z.box T1 = _;rw [y4n z.box T1 HT.out.2.fits,HW.out.2.2.1,HT.out.1]; rfl
   have hlen := y6u z.box T1;have hlen2 : T1.leaves.length ≤ 60 := by have h1 := HW.out.2.2.2; have h2 := HW.out.2.2.1; rw [HT.out.1] at h2; rw [h2] at h1; exact h1
   simp only [List.nil_append] at hsh hb2 ⊢;have O2 : Only [] w1 w2 := (Only.refl [] w1).drew.trans o2
   have HA : Hid (∀ g,a2 = some (Y g 0) → w1.heap.size ≤ g) := fun g hg => by
    rcases hb2 g (by rw [hg]; simp [ownL,Value.ownBlock]) with q | q
    ·simp [ownL,Value.ownBlock] at q
    ·exact q
   have H2 : Hid (PI w2 v (dn.flatMap (pairsAt L)) x (meetIds z.box T1) 0 v w2 ∧ Only [] w1 w2 ∧ (∀ b ∈ ownL v,b < w1.heap.size)) := ⟨⟨Nat.zero_le _,by simp only [List.take_zero,above,List.filter_nil,List.map_nil,List.append_nil]; exact H1.out.2.2.2.2.2.1.kept O2 (by simp),Only.refl _ _,fun b hb => Or.inl hb⟩,O2,H1.out.2.2.2.2.2.1.lt⟩;have HPL : Hid ((dn.flatMap (pairsAt L)).length ≤ 3600) := ycw HP.out.perm HW.out.2.2.2;clear hJ2 hs2 o2 hb2 O2;generalize meetIds z.box T1 = ys at hys hlen hsh H2 ⊢;have HSH : Hid (∀ j (hj : j < ys.length),∃ g,a2 = some (Y g 0) ∧ w2.cell? (Y g j) = some (I (ys[j]))) := hsh;have HLN : Hid (ys.length ≤ 60) := by show ys.length ≤ 60; omega
   clear hsh hlen hlen2 HPS HRT;go_wp2_with fail
   go_loopg [3,28] ys.length (fun k p idx wr => ∃ v3 j,v3 = p ∧ idx = I ((j : Nat) : Int) ∧ k = ys.length - j ∧ PI w2 v (dn.flatMap (pairsAt L)) x ys j v3 wr)
   case atStart => exact ⟨v,0,rfl,rfl,rfl,H2.out.1⟩
   case round =>
    obtain ⟨v3,j,rfl,rfl,hk,hpi⟩ := hrel;have HI : Hid (PI w2 v (dn.flatMap (pairsAt L)) x ys j v3 wr ∧ gk = ys.length - j) := ⟨hpi,hk⟩;clear hpi hk;have hjb := HI.out.1.le;have hln := HLN.out;by_cases hj : j < ys.length
    ·obtain ⟨g,ha2,hc⟩ := HSH.out j hj
     obtain ⟨yj,hyj⟩ : ∃ yj,yj = ys[j] := ⟨_,rfl⟩;rw [← hyj] at hc;have hg : g ∉ ownL v := fun hb => by have h1 := HA.out g ha2; have h2 := H2.out.2.2 g hb; omega
     have hcr : wr.cell? (Y g j) = some (I yj) := by
      rw [World.cell?_of_block (w := w2) (a := Y g j) (HI.out.1.only.block g (World.block_lt_of_cell? w2 _ hc) hg)]; exact hc
     have HY : Hid (yj = ys[j]) := hyj;clear hc hg hyj;have hjl : (j : Int) < (ys.length : Int) := by omega
     by_cases hi : x < yj
     ·have hs3 := HI.out.1.sl
      have hpl := HPL.out;have hab := yh0 x (ys.take j);have htk : (ys.take j).length ≤ 60 := by rw [List.length_take]; omega
      have hlen3 : (dn.flatMap (pairsAt L) ++ above x (ys.take j)).length ≤ 4000 := by rw [List.length_append]; omega
      clear hpl hab htk;subst ha2;go_wp2_with (first | (at_builtin; refine wpList_append_own_at _ rfl _ _ 101 rfl 0 103 i2 (.agg #[I 0,I 0]) 2 16 Tryz.underlying101 hi0 hz0 hz1 hz2 rfl (by decide) v3 _ _ rfl (World.ownsRow.alloc hs3 _) (Y wr.heap.size 0) 1 1 [I x,I yj] rfl rfl (cell_two _ _ _ _) (by simp [Value.oneCell']) (by unfold maxLen; omega) (by omega) (by simp) ?_; intro v' w5 hown hgrow hnil hloc; have H5 := yjr (p := (x,yj)) hown hgrow hloc; clear hown hgrow hnil hloc hcr hs3))
      go_roundg (ys.length - (j + 1))
      case measure => have := HI.out.2; omega
      case rel => exact ⟨v',j + 1,rfl,by go_num,rfl,HI.out.1.more hj HY.out hi H5.out⟩
     ·subst ha2
      go_wp2_with fail
      go_roundg (ys.length - (j + 1))
      case measure => have := HI.out.2; omega
      case rel => exact ⟨v3,j + 1,rfl,by go_num,rfl,HI.out.1.skip hj HY.out (by omega)⟩
    ·have hjl : ¬ (j : Int) < (ys.length : Int) := by omega
     go_wp2_with fail
     go_roundg cnt1
     case measure => exact H1.out.2.2.2.2.2.2.2
     case rel =>
      obtain ⟨hrg1,hzi,hzL,hperm,hlft,hsl1,ho1,_⟩ := H1.out;have ap := y73 hrg1 hsl1;have hjj : ys.take j = ys := List.take_of_length_le (by omega);have hfin := HI.out.1;refine ⟨v3,dn ++ [z],rem',_,rfl,⟨y90 (y90 hrg1 H2.out.2.1 (by simp) (by simp)) hfin.only ap.1 ap.2,hperm,hlft,?_,?_,?_,HP.out.rnew⟩⟩
      ·have h1 := hfin.sl
       rw [hjj,hys.out,← hzi] at h1;rw [List.flatMap_append];simpa [pairsAt] using h1
      ·exact (ho1.trans H2.out.2.1).then hfin.only (fun b hb => Or.inr (HP.out.new b hb))
      ·intro b hb
       rcases hfin.new b hb with q | q
       ·exact HP.out.new b q
       ·exact Nat.le_trans (ho1.trans H2.out.2.1).size q
theorem yhs (hsort : Sorts) (t : Nat) (fat : Int) (T : Option Tr) (w : World) (ht : TreeAt w t fat (rootO T) none) :
  Calls Tryz.prog 57 #[.pointer (some (Y t 0))] w fun e w' => ∃ v,e = .returned v ∧ SlPairs w' v [] ∧ Only [] w w' ∧ (∀ b ∈ ownL v,w.heap.size ≤ b) := by
 have c2 := ht.c2;have hrg := run_range_nilMap (P := Tryz.prog) w 111 3 110 Tryz.underlying111;have hnx : ∀ ty,(Instr.next (.pointer (some (Y w.heap.size 0))) false ty).run Tryz.prog (w.alloc (.mapIter none 0 #[] 0)) = _ := fun ty => run_next_nilMap _ ty 0 0 #[];have HS : Hid Sorts := hsort;clear ht hsort;go_enter Tryz.func57,Tryz.ntmps57
 go_wp2_with fail
 refine wp_loop_rounds 1 ?_;rw [rounds_succ];go_wp2_with fail
 refine (HS.out _ (.slice none 0 0) [] (SlPairs.nil _) (by simp)).mono ?_;rintro e w9 ⟨rfl,hs9,o9⟩;have H9 : Hid (SlPairs w9 (.slice none 0 0) [] ∧ Only [] w w9) := ⟨by simpa [sort2] using hs9,((Only.refl [] w).alloc _).trans (o9.mono (by simp [ownL,Value.ownBlock]))⟩;clear hs9 o9;go_wp2_with fail
 go_ret
 exact ⟨_,rfl,H9.out.1,H9.out.2,by simp [ownL,Value.ownBlock]⟩
open Go.ChangeShapes Go.WideShapes Go.ChangeAt Go.RowKit Go.Sort Go.Shelf Go.Lib
theorem flat_get : ∀ (Q : List (Int × Int)) (j : Nat) (hj : j < Q.length),(Q.flatMap enc2)[j * 2]? = some (I (Q[j].1)) ∧ (Q.flatMap enc2)[j * 2 + 1]? = some (I (Q[j].2)) := by
 intro Q
 induction Q with
 | nil => intro j hj; simp at hj
 | cons p Q ih =>
  intro j hj
  cases j with
  | zero => simp [enc2]
  | succ j =>
   have := ih j (by simpa using hj);simp only [List.flatMap_cons,enc2,List.cons_append,List.nil_append];rw [show (j + 1) * 2 = j * 2 + 1 + 1 by omega];simpa using this
theorem y7h (Q : List (Int × Int)) : (Q.flatMap enc2).length = Q.length * 2 := by
 induction Q with
 | nil => rfl
 | cons p Q ih => simp only [List.flatMap_cons,List.length_append,ih,enc2,List.length_cons,List.length_nil]; omega
theorem yj3 (P : List (Int × Int)) : flatK enc2 2 P.toArray = (P.flatMap enc2).toArray := by
 refine ext_get! (by rw [size_flatK,List.size_toArray,List.size_toArray,y7h]) (fun t ht => ?_);simp only [size_flatK,List.size_toArray] at ht;rw [get_flatK _ _ _ _ (by simpa using ht)];have hj : t / 2 < P.length := by omega
 obtain ⟨h1,h2⟩ := flat_get P (t / 2) hj;have e1 : P.toArray[t / 2]! = P[t / 2] := by rw [getElem!_pos _ _ (by simpa using hj)]; simp
 have hlen := y7h P;have e2 : (P.flatMap enc2).toArray[t]! = (P.flatMap enc2)[t]'(by omega) := by rw [getElem!_pos _ _ (by rw [List.size_toArray]; omega)]; rfl
 rw [e1,e2];rcases Nat.mod_two_eq_zero_or_one t with h | h
 ·rw [show t / 2 * 2 = t by omega,List.getElem?_eq_getElem (by omega)] at h1
  injection h1 with h1;rw [h1,h]; rfl
 ·rw [show t / 2 * 2 + 1 = t by omega,List.getElem?_eq_getElem (by omega)] at h2
  injection h2 with h2;rw [h2,h]; rfl
theorem ycq (F cur : Array Value) : (putCells id 0 F cur).size = cur.size := by simp [putCells]
theorem yce (F cur : Array Value) (h : F.size ≤ cur.size) : (putCells id 0 F cur).toList.take F.size = F.toList := by
 apply List.ext_getElem?;intro i;rw [List.getElem?_take];by_cases hi : i < F.size
 ·rw [if_pos hi,Array.getElem?_toList,Array.getElem?_toList]
  simp only [putCells,Array.getElem?_mapIdx];rw [Array.getElem?_eq_getElem (show i < cur.size by omega),Array.getElem?_eq_getElem hi];simp [hi]
 ·rw [if_neg hi,Array.getElem?_toList,Array.getElem?_eq_none (by omega)]
theorem lt2 (x y : Int × Int) : ltOf cmp2 x y = decide (x.1 < y.1 ∨ x.1 = y.1 ∧ x.2 < y.2) := by
 unfold ltOf cmp2 orI cmpI;by_cases h1 : x.1 < y.1
 ·simp [h1]
 ·by_cases h2 : y.1 < x.1
  ·simp [h1,h2]; omega
  ·have e : x.1 = y.1 := by omega
   simp only [h1,h2,if_false,if_true];by_cases h3 : x.2 < y.2
   ·simp [h3,e]
   ·by_cases h4 : y.2 < x.2 <;> simp [h3,h4]
theorem swo2 : SWO (ltOf cmp2) where
 irrefl x := by rw [lt2]; simp
 trans x y z h1 h2 := by rw [lt2] at *; simp at *; omega
 ntrans x y z h1 h2 := by rw [lt2] at *; simp at *; omega
theorem tot2 (x y : Int × Int) (h1 : ltOf cmp2 x y = false) (h2 : ltOf cmp2 y x = false) : x = y := by
 rw [lt2] at h1 h2;simp at h1 h2;obtain ⟨a,b⟩ := x; obtain ⟨c,d⟩ := y;simp only at h1 h2;have e1 : a = c := by omega
 subst e1;have e2 : b = d := by have := h1.2; have := h2.2; simp at *; omega
 rw [e2]
theorem sorts : Sorts := by
 intro w v P h hl;by_cases h0 : P = []
 ·subst h0
  obtain ⟨a,c,rfl,_⟩ := h.shape;refine (AnyF.slices_SortFunc_none sortP a c _ w).mono ?_;rintro e w' ⟨rfl,rfl⟩;exact ⟨rfl,by simpa [sort2] using h,Only.refl _ _⟩
 ·obtain ⟨h1,⟨rfl,h2⟩ | ⟨g,cap,cur,rfl,hb,hg,hn,hc,hs,ht⟩⟩ := h
  ·exact absurd (List.eq_nil_of_length_eq_zero h2) h0
  ·have hglt : g < w.heap.size := (Array.getElem?_eq_some_iff.1 hg).1
   have hfl := y7h P;have eg : ∀ args w,(callFunc 91 args).run Tryz.prog w = .ok (.enter 91 args) w := enters_of Tryz.func91 (by kernel_rfl) rfl;have hcmp : CmpLays Tryz.prog 91 #[] enc2 2 cmp2 g 0 P.toArray.size w := fun _ _ _ _ x y => ybd x y _
   have hH : HoldsK enc2 2 w g 0 P.toArray := by
    unfold HoldsK;rw [yj3];intro j hj;simp only [List.size_toArray] at hj
    have e : cur[j]? = some ((P.flatMap enc2)[j]'hj) := by
     have e1 : (cur.toList.take (P.length * 2))[j]? = some ((P.flatMap enc2)[j]'hj) := by rw [ht]; simp [hj]
     rw [List.getElem?_take,if_pos (by omega)] at e1;rw [← e1,Array.getElem?_toList]
    have e2 : (P.flatMap enc2).toArray[j]! = (P.flatMap enc2)[j]'hj := by rw [getElem!_pos _ _ (by simpa using hj)]; simp
    refine ⟨?_,by simp [World.frozen?,hg]⟩;rw [e2];simp [World.cell?,hg,e]
   have hcon := AnyQ.slices_SortFunc_total sortP 2 (fun _ => by kernel_rfl) (fun _ => by kernel_rfl) enc2 (fun _ => rfl) (fun x v hv => by simp [enc2] at hv; rcases hv with rfl | rfl <;> rfl) cmp2 swo2 91 #[] g 0 cap P.toArray w eg hcmp hH hglt (by simp; omega) tot2;refine Calls.mono (show Calls Tryz.prog 90 #[.slice (some (Y g 0)) P.length cap,.func (.func 91) #[] #[]] w _ from hcon) ?_;rintro e w' ⟨rfl,n,os,rfl⟩;have hsp : (sort2 P).Perm P := List.mergeSort_perm _ _;have hF : flatK enc2 2 (P.mergeSort fun x y => !ltOf cmp2 y x).toArray = ((sort2 P).flatMap enc2).toArray := yj3 _;have hlen2 := y7h (sort2 P);have hpl := hsp.length_eq;have hFs : ((sort2 P).flatMap enc2).toArray.size ≤ cur.size := by rw [List.size_toArray,hlen2,hpl,hs]; omega
   have hblk : (sortWorldK enc2 2 w g 0 n (P.mergeSort fun x y => !ltOf cmp2 y x).toArray os).heap[g]? = some (.cells (putCells id 0 ((sort2 P).flatMap enc2).toArray cur) 103 (0,0)) := by
    unfold sortWorldK putRowK;rw [hF,heap_grow_old _ _ (by simpa using hglt)];show (w.heap.modify g (onCells (putCells id 0 ((sort2 P).flatMap enc2).toArray)))[g]? = _;rw [Array.getElem?_modify,if_pos rfl,hg]; rfl
   refine ⟨rfl,⟨by rw [hlen2],Or.inr ⟨g,cap,_,by rw [hpl],hb,hblk,by rw [hpl]; exact hn,hc,by rw [ycq]; exact hs,?_⟩⟩,?_⟩
   ·have := yce ((sort2 P).flatMap enc2).toArray cur hFs
    rw [List.size_toArray,hlen2] at this;rw [this]
   ·refine ⟨rfl,rfl,rfl,?_,fun b hb' hD => ?_⟩
    ·simp [sortWorldK,putRowK]
    ·have hne : g ≠ b := fun e => hD (by simp [ownL,Value.ownBlock,e])
     unfold sortWorldK putRowK;rw [heap_grow_old _ _ (by simpa using hb')];show (w.heap.modify g _)[b]? = _;rw [Array.getElem?_modify,if_neg hne]
def pairM (M : List (Int × Bx)) (p : Int × Bx) : List (Int × Int) := above p.1 ((M.filter (fun r => meetX r.2 p.2)).map Prod.fst)
def pairsM (M : List (Int × Bx)) : List (Int × Int) := sort2 (M.flatMap (pairM M))
theorem y35 (x y : Int × Int) : (!decide (cmp2 y x < 0)) = !ltOf cmp2 y x := rfl
theorem ya1 {P Q : List (Int × Int)} (h : P.Perm Q) : sort2 P = sort2 Q := by
 have tr : ∀ a b c : Int × Int,(!decide (cmp2 b a < 0)) = true → (!decide (cmp2 c b < 0)) = true → (!decide (cmp2 c a < 0)) = true := by
  intro a b c h1 h2;rw [y35,lt2] at *;simp at *; omega
 have tot : ∀ a b : Int × Int,((!decide (cmp2 b a < 0)) || (!decide (cmp2 a b < 0))) = true := by
  intro a b;rw [y35,y35,lt2,lt2];simp; omega
 have s1 := List.pairwise_mergeSort (le := fun x y : Int × Int => !decide (cmp2 y x < 0)) tr tot P;have s2 := List.pairwise_mergeSort (le := fun x y : Int × Int => !decide (cmp2 y x < 0)) tr tot Q;have p : (sort2 P).Perm (sort2 Q) := (List.mergeSort_perm _ _).trans (h.trans (List.mergeSort_perm _ _).symm);refine p.eq_of_pairwise (fun a b _ _ h1 h2 => ?_) s1 s2;rw [y35] at h1 h2;exact tot2 a b (by simpa using h2) (by simpa using h1)
theorem yhz {zs : List Int} (h : ys.Perm zs) : (above i ys).Perm (above i zs) := (h.filter _).map _
theorem yhr {M N : List (Int × Bx)} (h : M.Perm N) (p : Int × Bx) : (pairM M p).Perm (pairM N p) := yhz ((h.filter _).map _)
theorem y78 {α β : Type} {f g : α → List β} (h : ∀ x,(f x).Perm (g x)) : ∀ l : List α,(l.flatMap f).Perm (l.flatMap g)
 | [] => List.Perm.refl _
 | x :: l => by simp only [List.flatMap_cons]; exact (h x).append (y78 h l)
theorem y5p {M N : List (Int × Bx)} (h : M.Perm N) : pairsM M = pairsM N :=
 ya1 ((h.flatMap_right _).trans (y78 (fun x => yhr h x) N))
theorem yf5 (L : List Lf) (x : Lf) : pairsAt L x = pairM (boxesOf L) (x.id,x.box) := by
 unfold pairsAt pairM idsOf boxesOf;rw [List.filter_map,List.map_map];rfl
theorem y8r (t : Nat) (fat : Int) (D : List Nat) (M : List (Int × Bx)) (w : World) (h : TreeIs w t fat D M) :
  Calls Tryz.prog 57 #[.pointer (some (Y t 0))] w fun e w' => ∃ v,e = .returned v ∧ SlPairs w' v (pairsM M) ∧ Only [] w w' ∧ (∀ b ∈ ownL v,w.heap.size ≤ b) := by
 obtain ⟨T,lv,hw,hD,hM⟩ := h.ex
 cases lv with
 | none =>
  have hb := hw.book;simp only [MapIs] at hb;rw [hb] at hM;obtain rfl : M = [] := List.perm_nil.1 hM;have e0 : pairsM [] = [] := by simp [pairsM,sort2]
  rw [e0];exact yhs sorts t fat T w hw.tree
 | some m =>
  refine (yhj sorts t fat T m w hw (by have := hM.length_eq; have := h.small; simp only [boxesOf,List.length_map] at *; omega)).mono ?_;rintro e w' ⟨v,dn,rfl,hp,hs,o,hn⟩;refine ⟨v,rfl,?_,o,hn⟩
  have e1 : sort2 (dn.flatMap (pairsAt (leavesO T))) = pairsM M := by
   rw [y5p hM];refine ya1 ?_;refine (hp.symm.flatMap_right _).trans ?_
   have : (boxesOf (leavesO T)).flatMap (pairM (boxesOf (leavesO T))) = (leavesO T).flatMap (pairsAt (leavesO T)) := by
    show ((leavesO T).map _).flatMap _ = _;rw [List.flatMap_map];exact congrArg (fun f => (leavesO T).flatMap f) (funext fun x => (yf5 _ x).symm)
   rw [this]
  rw [← e1]; exact hs
structure Two (w wr : World) (ta : Nat) (fa : Int) (tb : Nat) (fb : Int) (Ma Mb : List (Int × Bx)) : Prop where
 ex : ∃ Da Db,TreeIs wr ta fa Da Ma ∧ TreeIs wr tb fb Db Mb ∧ (∀ x ∈ Da,x ∉ Db) ∧ (∀ x ∈ Da,w.heap.size ≤ x) ∧ (∀ x ∈ Db,w.heap.size ≤ x)
 only : Only [] w wr
theorem Two.swap {Ma Mb : List (Int × Bx)} (h : Two w wr ta fa tb fb Ma Mb) : Two w wr tb fb ta fa Mb Ma := by
 obtain ⟨Da,Db,h1,h2,h3,h4,h5⟩ := h.ex;exact ⟨⟨Db,Da,h2,h1,fun x hx hy => h3 x hy hx,h5,h4⟩,h.only⟩
theorem Two.turn {Ma Mb N : List (Int × Bx)} {Da Db : List Nat} (h1 : TreeIs wr ta fa Da Ma) (h2 : TreeIs wr tb fb Db Mb) (h3 : ∀ x ∈ Da,x ∉ Db) (h4 : ∀ x ∈ Da,w.heap.size ≤ x) (h5 : ∀ x ∈ Db,w.heap.size ≤ x) (o : Only [] w wr)
  (k1 : TreeIs w' ta fa D' N) (k2 : ∀ b ∈ D',b ∈ Da ∨ wr.heap.size ≤ b) (k3 : Only Da wr w') : Two w w' ta fa tb fb N Mb := by
 refine ⟨⟨D',Db,k1,h2.only k3 (fun b hb ha => h3 b ha hb),fun x hx hy => ?_,fun x hx => ?_,h5⟩,o.then k3 (fun x hx => Or.inr (h4 x hx))⟩
 ·rcases k2 x hx with q | q
  ·exact h3 x q hy
  ·have := h2.lt x hy; omega
 ·rcases k2 x hx with q | q
  ·exact h4 x q
  ·exact Nat.le_trans o.size q
def boxB (q : Bd) : Bx := ⟨Go.Proofs.YtbenlgandjjopaaGreatDoor.sub q.ax q.sx,Go.Proofs.YtbenlgandjjopaaGreatDoor.sub q.ay (hf q.kd q.sx q.sy),Go.Proofs.YtbenlgandjjopaaGreatDoor.sub q.az (hf q.kd q.sx q.sz),Go.Proofs.YtbenlgandjjopaaGreatDoor.add q.ax q.sx,Go.Proofs.YtbenlgandjjopaaGreatDoor.add q.ay (hf q.kd q.sx q.sy),Go.Proofs.YtbenlgandjjopaaGreatDoor.add q.az (hf q.kd q.sx q.sz)⟩
structure WW (E : List Nat) (w : World) (x g : Nat) (c : Wc) (a : Option Addr) (n cap t : Nat) (la st : Int) (C : Nat → Bd) (M : List (Int × Bx)) (D : List Nat) (wr : World) : Prop where
 wa : WorldAt wr x c a n cap t la st
 own : OwnS wr a g n C
 tree : TreeIs wr t 65536 D M
 xD : x ∉ D
 gD : g ∉ D
 glt : g < wr.heap.size
 xg : x ≠ g
 xnew : x ∈ E ∨ w.heap.size ≤ x
 gnew : g ∈ E ∨ w.heap.size ≤ g
 dnew : ∀ b ∈ D,b ∈ E ∨ w.heap.size ≤ b
 only : Only E w wr
theorem WW.keep {M : List (Int × Bx)} (h : WW E w x g c a n cap t la st C M D wr) (o : Only [] wr w') : WW E w x g c a n cap t la st C M D w' :=
 ⟨h.wa.only o (by simp),h.own.only o (by simp),h.tree.only o (fun b _ => by simp),h.xD,h.gD,Nat.lt_of_lt_of_le h.glt o.size,h.xg,h.xnew,h.gnew,h.dnew,h.only.trans (o.mono (by simp))⟩
theorem OwnS.onlyN (h : OwnS w a g n B) (o : Only D w w') (s : n ≠ 0 → g ∉ D) : OwnS w' a g n B := by
 rcases h with h | h
 ·exact Or.inl h
 ·by_cases h0 : n = 0
  ·exact Or.inl h0
  ·exact Or.inr ⟨h.1,h.2.only o (s h0)⟩
theorem OwnS.lt {w : World} {a : Option Addr} {g n : Nat} {B : Nat → Bd} (h : OwnS w a g n B) (h0 : n ≠ 0) : g < w.heap.size := by
 rcases h with h | h
 ·exact absurd h h0
 ·exact h.2.lt
theorem WW.tree' {M M' : List (Int × Bx)} (h : WW E w x g c a n cap t la st C M D wr) (ht : TreeIs w' t 65536 D' M') (hD : ∀ b ∈ D',b ∈ D ∨ wr.heap.size ≤ b) (o : Only D wr w') : WW E w x g c a n cap t la st C M' D' w' :=
 ⟨h.wa.only o h.xD,h.own.onlyN o (fun _ => h.gD),ht,fun hx => by
   rcases hD x hx with q | q
   ·exact h.xD q
   ·have := h.wa.lt; omega,
  fun hg => by
   rcases hD g hg with q | q
   ·exact h.gD q
   ·have := h.glt; omega,
  Nat.lt_of_lt_of_le h.glt o.size,
  h.xg,h.xnew,h.gnew,fun b hb => by
   rcases hD b hb with q | q
   ·exact h.dnew b q
   ·exact Or.inr (Nat.le_trans h.only.size q),
  h.only.then o (fun b hb => h.dnew b hb)⟩
theorem y8f (w : World) (x g : Nat) (c : Wc) (a : Option Addr) (n cap t : Nat) (la st : Int) (C : Nat → Bd) (M : List (Int × Bx)) (D : List Nat) (q : Bd) (wr : World) (h : WW E w x g c a n cap t la st C M D wr) (hid : In64 q.id) :
  Calls Tryz.prog 40 #[.pointer (some (Y x 0)),.agg (bdA q)] wr fun e w' => e = .returned (errV (putC M q.id (boxB q))) ∧ ∃ D',WW E w x g c a n cap t la st C (putM M q.id (boxB q)) D' w' ∧ Only D wr w' ∧ ∀ b ∈ D',b ∈ D ∨ wr.heap.size ≤ b := by
 have HW : Hid (WW E w x g c a n cap t la st C M D wr ∧ In64 q.id) := ⟨h,hid⟩;clear h hid;go_enter Tryz.func40,Tryz.ntmps40
 go_upto_region 1 with fail
 have H1 : Hid (WW E w x g c a n cap t la st C M D (wr.alloc (.cells (bdA q) 45)) ∧ (wr.alloc (.cells (bdA q) 45)).heap[wr.heap.size]? = some (.cells (bdA q) 45) ∧ wr.heap.size ∉ D ∧ Only [] wr (wr.alloc (.cells (bdA q) 45))) := by
  refine ⟨HW.out.1.keep ((Only.refl [] wr).alloc _),(MapKept.heap_alloc wr _).1,fun hk => ?_,(Only.refl [] wr).alloc _⟩;have := HW.out.1.tree.lt _ hk;omega
 revert H1;generalize wr.heap.size = kb;generalize World.alloc wr _ = w1;intro H1
 have HK : Hid (∀ w',Only D w1 w' → Only D w1 w' ∧ w'.cell? (Y x 8) = some (.pointer (some (Y t 0))) ∧ w'.cell? (Y kb 0) = some (I q.id) ∧ w'.cell? (Y kb 2) = some (I q.kd) ∧ w'.cell? (Y kb 3) = some (I q.sx) ∧ w'.cell? (Y kb 4) = some (I q.sy) ∧ w'.cell? (Y kb 5) = some (I q.sz) ∧ w'.cell? (Y kb 6) = some (I q.ax) ∧ w'.cell? (Y kb 7) = some (I q.ay) ∧ w'.cell? (Y kb 8) = some (I q.az)) := fun w' o => by
  have hb : w'.heap[kb]? = some (.cells (bdA q) 45) := (o.block kb (Array.getElem?_eq_some_iff.1 H1.out.2.1).1 H1.out.2.2.1).trans H1.out.2.1;refine ⟨o,(H1.out.1.wa.only o H1.out.1.xD).off 8,?_⟩;simp [World.cell?,hb]
 refine wp_region_held_drew (S := (fun w' => Only D w1 w' ∧ w'.cell? (Y x 8) = some (.pointer (some (Y t 0))) ∧ Zc w' kb 0 q.id ∧ Zc w' kb 2 q.kd ∧ Zc w' kb 3 q.sx ∧ Zc w' kb 4 q.sy ∧ Zc w' kb 5 q.sz ∧ Zc w' kb 6 q.ax ∧ Zc w' kb 7 q.ay ∧ Zc w' kb 8 q.az)) (by kernel_rfl) ?_ (fun hJ1 => ?_)
 ·exact HK.out _ (Only.refl _ _).drew
 refine tkU 0 (h:=tkU 1 (h:=tkU 2 (h:=tkV 3 ?_)));try simp only [zP]
 refine tkU 4 (h:=tkU 5 (h:=tkU 6 (h:=tkV 7 ?_)));try simp only [zP]
 refine tkU 8 (h:=tkV 9 ?_);try simp only [zP]
 refine rdW 10 rfl fun K hK => ?_;simp only [zQ];go_simp
 (go_at_call 69; refine (y1q q.kd q.sx q.sy q.sz q.ax q.ay q.az _).mono ?_; rintro e w2 ⟨rfl,k2⟩; have K2 : Hid (Kept w1 w2) := (Kept.refl w1).drew.trans k2; clear k2)
 try go_wp2_with fail
 refine hK.out _ _ ?_ fun hJ2 => ?_
 ·exact HK.out _ (Only.of_kept K2.out)
 clear hK K hJ1;try simp only [zP]
 refine rdW 11 rfl fun K hK => ?_;simp only [zQ];go_simp
 (go_at_call 68; refine (show Calls Tryz.prog 68 #[.pointer (some (Y t 0)),I q.id,.agg #[I ((boxB q).x0),I ((boxB q).x1),I ((boxB q).x2),I ((boxB q).x3),I ((boxB q).x4),I ((boxB q).x5)]] w2 _ from ydi t 65536 D M q.id (boxB q) w2 (H1.out.1.keep (Only.of_kept K2.out)).tree HW.out.2).mono ?_; rintro e w3 ⟨rfl,D',ht,hD,o3⟩; have H3 : Hid (WW E w x g c a n cap t la st C (putM M q.id (boxB q)) D' w3 ∧ Only D w1 w3 ∧ (∀ b ∈ D',b ∈ D ∨ w1.heap.size ≤ b)) := ⟨(H1.out.1.keep (Only.of_kept K2.out)).tree' ht hD o3,(Only.of_kept K2.out).trans o3,fun b hb => (hD b hb).imp id (fun q => Nat.le_trans K2.out.below.size q)⟩; clear ht hD o3)
 try go_wp2_with fail
 refine hK.out _ _ ?_ fun hJ3 => ?_
 ·exact HK.out _ H3.out.2.1
 clear hK K hJ2;try simp only [zP]
 refine tkV 12 ?_;try simp only [zP]
 refine wpAnyH_done (by kernel_rfl) ?_ _;go_wp2_with fail
 go_ret
 exact ⟨rfl,D',H3.out.1,(H1.out.2.2.2.mono (by simp)).trans H3.out.2.1,fun b hb => (H3.out.2.2 b hb).imp id (fun q => Nat.le_trans H1.out.2.2.2.size q)⟩
def newW (c : Wc) : Int := if beyX 6553600 c.fx c.fy c.fz = false ∧ upX c.qt 60 = true then (if rightX c.bo c.ru c.ro = true then 0 else 1) else 2
def ConfAt (w : World) (kb : Nat) (c : Wc) : Prop := w.heap[kb]? = some (.cells #[J U c.fx,J U c.fy,J U c.fz,J U c.bo,J U c.ru,J U c.ro,J U c.qt] 27)
theorem ConfAt.only (h : ConfAt w kb c) (o : Only [] w w') : ConfAt w' kb c := (o.block kb (Array.getElem?_eq_some_iff.1 h).1 (by simp)).trans h
theorem ConfAt.lt (h : ConfAt w kb c) : kb < w.heap.size := (Array.getElem?_eq_some_iff.1 h).1
theorem ConfAt.off (h : ConfAt w kb c) (j : Nat) : w.cell? (Y kb j) = (#[I c.fx,I c.fy,I c.fz,I c.bo,I c.ru,I c.ro,I c.qt] : Array Value)[j]? := by
 unfold ConfAt at h; simp [World.cell?,h]
def NewPost (c : Wc) (w : World) (e : Ending) (w' : World) : Prop :=
 (newW c = 0 → ∃ x t g,e = .returned (.tuple #[.pointer (some ⟨x,0,none⟩),.nilIface]) ∧ WW [] w x g c none 0 0 t 0 0 (fun _ => bd0) [] [t] w') ∧
 (newW c ≠ 0 → e = .returned (.tuple #[.pointer none,errV (newW c)]) ∧ Only [] w w')
theorem NewPost.bad {k : Int} (h : newW c = k) (hk : k ≠ 0) (o : Only [] w w') : NewPost c w (.returned (.tuple #[.pointer none,errV k])) w' :=
 ⟨fun q => absurd (h.symm.trans q) hk,fun _ => ⟨by rw [h],o⟩⟩
theorem NewPost.good (h : newW c = 0) (o : WW [] w x g c none 0 0 t 0 0 (fun _ => bd0) [] [t] w') : NewPost c w (.returned (.tuple #[.pointer (some (Y x 0)),.nilIface])) w' :=
 ⟨fun _ => ⟨x,t,g,rfl,o⟩,fun q => absurd h q⟩
theorem y9z (c : Wc) (w : World) : Calls Tryz.prog 4 #[.agg #[I c.fx,I c.fy,I c.fz,I c.bo,I c.ru,I c.ro,I c.qt]] w (NewPost c w) := by
 go_enter Tryz.func4,Tryz.ntmps4
 go_upto_region 1 with fail
 have H1 : Hid (ConfAt (w.alloc (.cells #[I c.fx,I c.fy,I c.fz,I c.bo,I c.ru,I c.ro,I c.qt] 27)) w.heap.size c ∧ Only [] w (w.alloc (.cells #[I c.fx,I c.fy,I c.fz,I c.bo,I c.ru,I c.ro,I c.qt] 27)) ∧ w.heap.size ≤ w.heap.size) := ⟨(MapKept.heap_alloc w _).1,(Only.refl [] w).alloc _,Nat.le_refl _⟩;revert H1;generalize hkb : w.heap.size = kb;have HKB : Hid (w.heap.size ≤ kb) := Nat.le_of_eq hkb;clear hkb;generalize World.alloc w _ = w1;intro H1;have e0 := H1.out.1.off 0; have e1 := H1.out.1.off 1; have e2 := H1.out.1.off 2;simp only [zR] at e0 e1 e2;go_wp2_with fail
 refine (y2e _ _ _ _ _ (by decide) (by decide)).mono ?_;rintro e w2 ⟨rfl,k2⟩;have H2 : Hid (ConfAt w2 kb c ∧ Only [] w w2) := ⟨H1.out.1.only (Only.of_kept k2),H1.out.2.1.trans (Only.of_kept k2)⟩;clear e0 e1 e2 k2 H1
 cases h0 : beyX 6553600 c.fx c.fy c.fz with
 | true =>
  have HE : Hid (newW c = 2) := by show newW c = 2; unfold newW; simp [h0]
  clear h0;go_wp2_with fail
  exact bodyPost_ret (v := .tuple #[.pointer none,errV 2]) (by simp [results,Tryz.results4,go_sem,errV]) rfl (NewPost.bad HE.out (by decide) H2.out.2)
 | false =>
  have G0 : Hid (beyX 6553600 c.fx c.fy c.fz = false) := h0;clear h0;have e6 := H2.out.1.off 6;simp only [zR] at e6;go_wp2_with fail
  refine (y6j _ _ _).mono ?_;rintro e w3 ⟨rfl,hw3⟩;have H3 : Hid (ConfAt w3 kb c ∧ Only [] w w3) := by rw [hw3]; exact H2.out
  clear hw3 H2 e6
  cases h0 : upX c.qt 60 with
  | false =>
   have HE : Hid (newW c = 2) := by show newW c = 2; unfold newW; simp [h0]
   clear h0;go_wp2_with fail
   exact bodyPost_ret (v := .tuple #[.pointer none,errV 2]) (by simp [results,Tryz.results4,go_sem,errV]) rfl (NewPost.bad HE.out (by decide) H3.out.2)
  | true =>
   have G1 : Hid (upX c.qt 60 = true) := h0;clear h0;have e3 := H3.out.1.off 3; have e4 := H3.out.1.off 4; have e5 := H3.out.1.off 5;simp only [zR] at e3 e4 e5;go_wp2_with fail
   refine (y58 _ _ _ _).mono ?_;rintro e w4 ⟨rfl,k4⟩;have H4 : Hid (ConfAt w4 kb c ∧ Only [] w w4) := ⟨H3.out.1.only (Only.of_kept k4),H3.out.2.trans (Only.of_kept k4)⟩;clear e3 e4 e5 k4 H3
   cases h0 : rightX c.bo c.ru c.ro with
   | false =>
    have HE : Hid (newW c = 1) := by show newW c = 1; unfold newW; simp [G0.out,G1.out,h0]
    clear h0;go_wp2_with fail
    exact bodyPost_ret (v := .tuple #[.pointer none,errV 1]) (by simp [results,Tryz.results4,go_sem,errV]) rfl (NewPost.bad HE.out (by decide) H4.out.2)
   | true =>
    have HE : Hid (newW c = 0) := by show newW c = 0; unfold newW; simp [G0.out,G1.out,h0]
    clear h0;go_wp2_with fail
    refine (yjx 65536 _ (by decide) (by decide)).mono ?_;rintro e w5 ⟨t,rfl,hT,hnt,o5⟩;have H5 : Hid (ConfAt w5 kb c ∧ Only [] w w5 ∧ TreeIs w5 t 65536 [t] [] ∧ w4.heap.size ≤ t ∧ kb < w4.heap.size) := ⟨H4.out.1.only o5,H4.out.2.trans o5,hT,hnt,H4.out.1.lt⟩;clear hT hnt o5;have e0 := H5.out.1.off 0; have e1 := H5.out.1.off 1; have e2 := H5.out.1.off 2; have e3 := H5.out.1.off 3; have e4 := H5.out.1.off 4; have e5 := H5.out.1.off 5; have e6 := H5.out.1.off 6;simp only [zR] at e0 e1 e2 e3 e4 e5 e6;go_wp2_with fail
    clear e0 e1 e2 e3 e4 e5 e6;refine bodyPost_ret (v := .tuple #[.pointer (some (Y w5.heap.size 0)),.nilIface]) (by simp [results,Tryz.results4,go_sem]) rfl (NewPost.good (t := t) (g := kb) HE.out ?_);have o6 : Only [] w5 (w5.alloc (.cells #[I c.fx,I c.fy,I c.fz,I c.bo,I c.ru,I c.ro,I c.qt,.slice none 0 0,.pointer (some (Y t 0)),I 0,I 0] 82)) := (Only.refl [] w5).alloc _;have hlt := H5.out.2.2.1.lt t (by simp);refine ⟨(MapKept.heap_alloc w5 _).1,Or.inl rfl,H5.out.2.2.1.only o6 (fun b _ => by simp),by simp; omega,?_,?_,?_,Or.inr H5.out.2.1.size,Or.inr HKB.out,?_,H5.out.2.1.trans o6⟩
    ·have := H5.out.2.2.2; simp only [zrc]; omega
    ·have := H5.out.1.lt; simp; omega
    ·have := H5.out.1.lt; omega
    ·intro b hb
     simp only [zrc] at hb;subst hb;have := H5.out.2.2.2.1;have := H4.out.2.size;right; omega
end Go.Proofs.YtbenlgandjjopaaGreatDoor
