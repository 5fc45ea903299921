/- . -/
import Derived.Test.YtbenlgandjjopaaGreatDoorN35
import Derived.Test.YtbenlgandjjopaaGreatDoorLayI
import Derived.Test.YtbenlgandjjopaaGreatDoorN33
open Go.Value renaming int → J
open Go.IntKind renaming i64 → U
open List renaming mem_singleton → zrc
namespace Go.Proofs.YtbenlgandjjopaaGreatDoor
set_option maxRecDepth 100000
set_option maxHeartbeats 4000000
open Go.ChangeShapes Go.WideShapes Go.ChangeAt Go.RowKit Go.Sort Go.Shelf Go.Lib
set_option linter.unusedVariables false
set_option linter.unusedSimpArgs false
variable {w w' wr : World} {B : Nat → Bd} {n k base t r kb : Nat} {xs : List Int} {q : Bd} {v : Value} {id fat : Int} {lv : Option Nat} {E : List Nat}
def sortZ (xs : List Int) : List Int := xs.mergeSort fun x y => decide (x ≤ y)
theorem y6v (xs : List Int) : (sortZ xs).Perm xs := List.mergeSort_perm _ _
theorem sortZ_le (xs : List Int) : (sortZ xs).Pairwise (fun x y => x ≤ y) := by
 have := List.pairwise_mergeSort (le := fun x y : Int => decide (x ≤ y)) (by intro a b c h1 h2; simp at *; omega) (by intro a b; simp; omega) xs;exact this.imp (by intro a b h; simpa using h)
theorem sortZ_lt (xs : List Int) (h : xs.Nodup) : (sortZ xs).Pairwise (fun x y => x < y) := by
 have h1 := sortZ_le xs;have h2 : (sortZ xs).Pairwise (fun x y => x ≠ y) := (y6v xs).symm.nodup h;exact (h1.and h2).imp (by intro a b h; omega)
theorem sortsI (v : Value) (xs : List Int) (w : World) (h : SlInts w v xs) (hl : xs.length ≤ 1000) :
  Calls Tryz.prog 89 #[v] w fun e w' => e = .returned (.tuple #[]) ∧ SlInts w' v (sortZ xs) ∧ Only (ownL v) w w' := by
 by_cases h0 : xs = []
 ·subst h0
  obtain ⟨a,c,rfl,_⟩ := h.shape;refine (Any.slices_Sort_int_none sortI a c w).mono ?_;rintro e w' ⟨rfl,rfl⟩;exact ⟨rfl,by simpa [sortZ] using h,Only.refl _ _⟩
 ·obtain ⟨h1,⟨rfl,h2⟩ | ⟨g,cap,cur,rfl,hb,hg,hn,hc,hs,ht⟩⟩ := h
  ·exact absurd (List.eq_nil_of_length_eq_zero h2) h0
  ·have hglt : g < w.heap.size := (Array.getElem?_eq_some_iff.1 hg).1
   have hH : Holds (Value.int .i64) w g 0 xs.toArray := by
    intro j hj;simp only [List.size_toArray] at hj
    have e : cur[j]? = some (I (xs[j]'hj)) := by
     have e1 : (cur.toList.take (xs.length * 1))[j]? = some (I (xs[j]'hj)) := by rw [ht]; simp [hj]
     rw [List.getElem?_take,if_pos (by omega)] at e1;rw [← e1,Array.getElem?_toList]
    have e2 : xs.toArray[j]! = xs[j]'hj := by rw [getElem!_pos _ _ (by simpa using hj)]; simp
    refine ⟨?_,by simp [World.frozen?,hg]⟩;rw [e2];simp [World.cell?,hg,e]
   refine Calls.mono (show Calls Tryz.prog 89 #[.slice (some (Y g 0)) xs.length cap] w _ from Any.slices_Sort_int sortI g 0 cap xs w hH hglt (by omega)) ?_;rintro e w' ⟨rfl,n,os,rfl⟩;have hpl := (y6v xs).length_eq
   have hblk : (grow (putRow (Value.int .i64) (Sort.ahead w n) g 0 (sortZ xs).toArray) os).heap[g]? = some (.cells (putCells (Value.int .i64) 0 (sortZ xs).toArray cur) 3 (0,0)) := by
    unfold putRow mapBlock;rw [heap_grow_old _ _ (by simpa using hglt)];show (w.heap.modify g (onCells (putCells (Value.int .i64) 0 (sortZ xs).toArray)))[g]? = _;rw [Array.getElem?_modify,if_pos rfl,hg]; rfl
   refine ⟨rfl,⟨by simp,Or.inr ⟨g,cap,_,by rw [hpl],hb,hblk,by rw [hpl]; exact hn,hc,by rw [← hs]; simp [putCells],?_⟩⟩,?_⟩
   ·apply List.ext_getElem?
    intro i;rw [List.getElem?_take,Nat.mul_one];by_cases hi : i < (sortZ xs).length
    ·rw [if_pos hi,Array.getElem?_toList]
     simp only [putCells,Array.getElem?_mapIdx];rw [Array.getElem?_eq_getElem (show i < cur.size by omega)];simp [hi]
    ·rw [if_neg hi,List.getElem?_eq_none (by simpa using hi)]
   ·refine ⟨rfl,rfl,rfl,?_,fun b hb' hD => ?_⟩
    ·simp [grow,putRow,mapBlock,Sort.ahead]
    ·have hne : g ≠ b := fun e => hD (by simp [ownL,Value.ownBlock,e])
     unfold putRow mapBlock;rw [heap_grow_old _ _ (by simpa using hb')];show (w.heap.modify g _)[b]? = _;rw [Array.getElem?_modify,if_neg hne]
def meetM (M : List (Int × Bx)) (q : Bx) : List Int := (M.filter fun p => meetX p.2 q).map Prod.fst
theorem yil {M N : List (Int × Bx)} (p : M.Perm N) (q : Bx) : (meetM M q).Perm (meetM N q) := (p.filter _).map _
theorem yfq (L : List Lf) (q : Bx) : meetM (boxesOf L) q = idsOf q L := by
 unfold meetM boxesOf idsOf
 induction L with
 | nil => rfl
 | cons x L ih =>
  simp only [List.map_cons,List.filter_cons];split
  ·simp only [List.map_cons,ih]
  ·exact ih
theorem yf1 {M : List (Int × Bx)} (h : (M.map Prod.fst).Nodup) (q : Bx) : (meetM M q).Nodup :=
 List.Nodup.sublist ((List.filter_sublist).map _) h
def QS (t rt k : Nat) (q : Bx) (w w' : World) : Prop := Only [] w w' ∧ w'.cell? ⟨t,1,none⟩ = some (.pointer (some ⟨rt,0,none⟩)) ∧ w'.cell? ⟨k,0,none⟩ = some (J U q.x0) ∧ w'.cell? ⟨k,1,none⟩ = some (J U q.x1) ∧ w'.cell? ⟨k,2,none⟩ = some (J U q.x2) ∧ w'.cell? ⟨k,3,none⟩ = some (J U q.x3) ∧ w'.cell? ⟨k,4,none⟩ = some (J U q.x4) ∧ w'.cell? ⟨k,5,none⟩ = some (J U q.x5)
def QN (t k : Nat) (q : Bx) (w w' : World) : Prop := Only [] w w' ∧ w'.cell? ⟨t,1,none⟩ = some (.pointer none) ∧ w'.cell? ⟨k,0,none⟩ = some (J U q.x0) ∧ w'.cell? ⟨k,1,none⟩ = some (J U q.x1) ∧ w'.cell? ⟨k,2,none⟩ = some (J U q.x2) ∧ w'.cell? ⟨k,3,none⟩ = some (J U q.x3) ∧ w'.cell? ⟨k,4,none⟩ = some (J U q.x4) ∧ w'.cell? ⟨k,5,none⟩ = some (J U q.x5)
theorem QS.of {rt : Nat} {q : Bx} (o : Only [] w w') (ht : TreeAt w t fat (some rt) lv) (hq : BoxAt w k q) : QS t rt k q w w' := by
 have h := o.box (by simp) hq;exact ⟨o,(o.tree (by simp) ht).c1,h.off 0,h.off 1,h.off 2,h.off 3,h.off 4,h.off 5⟩
theorem QN.of {q : Bx} (o : Only [] w w') (ht : TreeAt w t fat none lv) (hq : BoxAt w k q) : QN t k q w w' := by
 have h := o.box (by simp) hq;exact ⟨o,(o.tree (by simp) ht).c1,h.off 0,h.off 1,h.off 2,h.off 3,h.off 4,h.off 5⟩
def QueryPost (w : World) (q : Bx) (M : List (Int × Bx)) (e : Ending) (w' : World) : Prop :=
 ∃ v xs,e = .returned v ∧ SlInts w' v xs ∧ xs.Perm (meetM M q) ∧ xs.Pairwise (fun x y => x < y) ∧ Only [] w w' ∧ (∀ b ∈ ownL v,w.heap.size ≤ b)
theorem yeq (t : Nat) (fat : Int) (D : List Nat) (M : List (Int × Bx)) (q : Bx) (w : World) (h : TreeIs w t fat D M) :
  Calls Tryz.prog 56 #[.pointer (some (Y t 0)),.agg #[I q.x0,I q.x1,I q.x2,I q.x3,I q.x4,I q.x5]] w (QueryPost w q M) := by
 obtain ⟨T,lv,hw,hD,hM⟩ := h.ex
 cases T with
 | none =>
  have HM : Hid (meetM M q = []) := by
   have := hM.length_eq; simp [boxesOf,leavesO] at this;show meetM M q = []; rw [this]; rfl
  have HT : Hid (TreeAt w t fat none lv) := hw.tree;clear hw hD hM h;go_enter Tryz.func56,Tryz.ntmps56
  go_wp2_with fail
  have H0 : Hid (Only [] w (w.alloc (.cells #[I q.x0,I q.x1,I q.x2,I q.x3,I q.x4,I q.x5] 57)) ∧ BoxAt (w.alloc (.cells #[I q.x0,I q.x1,I q.x2,I q.x3,I q.x4,I q.x5] 57)) w.heap.size q) := ⟨(Only.refl [] w).alloc _,(MapKept.heap_alloc w _).1⟩;revert H0;generalize World.alloc w _ = w1;intro H0;have HPS : Hid (∀ w',Only [] w1 w' → QN t w.heap.size q w1 w') := fun w' o => QN.of o (H0.out.1.tree (by simp) HT.out) H0.out.2;have HK : Hid (w.heap.size = w.heap.size) := rfl;generalize hk : w.heap.size = kk at HPS ⊢;have HKK : Hid (w.heap.size = kk) := hk;clear hk HK;refine wp_region_held_drew (S := (fun w' => Only [] w1 w' ∧ w'.cell? (Y t 1) = some (.pointer none) ∧ Zc w' kk 0 q.x0 ∧ Zc w' kk 1 q.x1 ∧ Zc w' kk 2 q.x2 ∧ Zc w' kk 3 q.x3 ∧ Zc w' kk 4 q.x4 ∧ Zc w' kk 5 q.x5)) (by kernel_rfl) ?_ (fun hJ1 => ?_)
  ·exact HPS.out _ (Only.refl _ _).drew
  refine tkU 0 (h:=tkU 1 (h:=tkU 2 (h:=tkV 3 ?_)));try simp only [zP]
  refine tkV 4 ?_;try simp only [zP]
  refine rdW 5 rfl fun K hK => ?_;simp only [zQ];go_simp
  (go_at_call 88; refine (yet q (.slice none 0 0) _).mono ?_; rintro e w2 ⟨rfl,o2⟩)
  try go_wp2_with fail
  refine hK.out _ _ ?_ fun hJ2 => ?_
  ·exact HPS.out _ ((Only.refl [] w1).drew.trans o2)
  clear hK K hJ1;try simp only [zP]
  refine tkV 6 ?_;try simp only [zP]
  refine wpAnyH_done (by kernel_rfl) ?_ _;have O2 : Hid (Only [] w w2) := H0.out.1.trans ((Only.refl [] w1).drew.trans o2);clear hJ2 o2 HPS;go_wp2_with fail
  refine (sortsI (.slice none 0 0) [] w2 (World.ownsRow_nil _ 0 _ _) (by simp)).mono ?_;rintro e w3 ⟨rfl,hs3,o3⟩;have H3 : Hid (Only [] w w3) := O2.out.trans (o3.mono (by simp [ownL,Value.ownBlock]));clear hs3 o3;go_wp2_with fail
  go_ret
  exact ⟨_,[],rfl,World.ownsRow_nil _ 0 _ _,by rw [HM.out],List.Pairwise.nil,H3.out,by simp [ownL,Value.ownBlock]⟩
 | some T =>
  have HM : Hid (Fits T ∧ M.Perm (boxesOf T.leaves) ∧ T.leaves.length ≤ 60 ∧ (M.map Prod.fst).Nodup) := ⟨hw.fits,hM,by have := h.small; rw [hM.length_eq] at this; simpa [boxesOf,leavesO] using this,h.keys⟩;have HT : Hid (TreeAt w t fat (some T.root) lv ∧ In w none T) := ⟨hw.tree,hw.inn.1⟩;clear hw hD hM h;go_enter Tryz.func56,Tryz.ntmps56
  go_wp2_with fail
  have H0 : Hid (Only [] w (w.alloc (.cells #[I q.x0,I q.x1,I q.x2,I q.x3,I q.x4,I q.x5] 57)) ∧ BoxAt (w.alloc (.cells #[I q.x0,I q.x1,I q.x2,I q.x3,I q.x4,I q.x5] 57)) w.heap.size q) := ⟨(Only.refl [] w).alloc _,(MapKept.heap_alloc w _).1⟩;revert H0;generalize World.alloc w _ = w1;intro H0;have HPS : Hid (∀ w',Only [] w1 w' → QS t T.root w.heap.size q w1 w') := fun w' o => QS.of o (H0.out.1.tree (by simp) HT.out.1) H0.out.2;generalize hk : w.heap.size = kk at HPS ⊢;have HKK : Hid (w.heap.size = kk) := hk;clear hk;generalize hrt : T.root = rt at HPS;have HRT : Hid (T.root = rt) := hrt;clear hrt;refine wp_region_held_drew (S := (fun w' => Only [] w1 w' ∧ w'.cell? (Y t 1) = some (.pointer (some (Y rt 0))) ∧ Zc w' kk 0 q.x0 ∧ Zc w' kk 1 q.x1 ∧ Zc w' kk 2 q.x2 ∧ Zc w' kk 3 q.x3 ∧ Zc w' kk 4 q.x4 ∧ Zc w' kk 5 q.x5)) (by kernel_rfl) ?_ (fun hJ1 => ?_)
  ·exact HPS.out _ (Only.refl _ _).drew
  refine tkU 0 (h:=tkU 1 (h:=tkU 2 (h:=tkV 3 ?_)));try simp only [zP]
  refine tkV 4 ?_;try simp only [zP]
  refine rdW 5 rfl fun K hK => ?_;simp only [zQ];go_simp
  (go_at_call 88; rw [← HRT.out]; refine (y2j q T _ none (.slice none 0 0) [] (by exact HT.out.2.only (H0.out.1.trans (Only.refl [] w1).drew) (by simp)) (by exact World.ownsRow_nil _ 0 _ _) (by have h1 := HM.out.2.2.1; simp; omega)).mono ?_; rintro e w2 ⟨v2,rfl,hs2,o2,hb2⟩)
  try go_wp2_with fail
  refine hK.out _ _ ?_ fun hJ2 => ?_
  ·exact HPS.out _ ((Only.refl [] w1).drew.trans o2)
  clear hK K hJ1;try simp only [zP]
  refine tkV 6 ?_;try simp only [zP]
  refine wpAnyH_done (by kernel_rfl) ?_ _
  have O2 : Hid (Only [] w w2 ∧ SlInts w2 v2 (meetIds q T) ∧ (∀ b ∈ ownL v2,w.heap.size ≤ b)) := ⟨H0.out.1.trans ((Only.refl [] w1).drew.trans o2),by simpa using hs2,fun b hb => by
   rcases hb2 b hb with z | z
   ·simp [ownL,Value.ownBlock] at z
   ·exact Nat.le_trans H0.out.1.size z⟩
  clear hJ2 o2 HPS hs2 hb2;go_wp2_with fail
  refine (sortsI v2 (meetIds q T) w2 O2.out.2.1 (by have h1 := HM.out.2.2.1; have h2 := y6u q T; omega)).mono ?_;rintro e w3 ⟨rfl,hs3,o3⟩;have H3 : Hid (SlInts w3 v2 (sortZ (meetIds q T)) ∧ Only (ownL v2) w2 w3) := ⟨hs3,o3⟩;clear hs3 o3;go_wp2_with fail
  go_ret
  have e1 : (meetIds q T).Perm (meetM M q) := by
   rw [y4n q T HM.out.1,← yfq];exact (yil HM.out.2.1 q).symm
  refine ⟨_,_,rfl,H3.out.1,(y6v _).trans e1,sortZ_lt _ (e1.symm.nodup (yf1 HM.out.2.2.2 q)),?_,O2.out.2.2⟩;exact O2.out.1.then H3.out.2 (fun b hb => Or.inr (O2.out.2.2 b hb))
open Go.ChangeShapes Go.WideShapes Go.ChangeAt Go.RowKit
theorem yig (w0 : World) (x g : Nat) (c : Wc) (a : Option Addr) (n cap t : Nat) (la st : Int) (B : Nat → Bd) (M : List (Int × Bx)) (D : List Nat) (q : Bx) (w : World) (h : WW E w0 x g c a n cap t la st B M D w) :
  Calls Tryz.prog 19 #[.pointer (some (Y x 0)),.agg #[I q.x0,I q.x1,I q.x2,I q.x3,I q.x4,I q.x5]] w (QueryPost w q M) := by
 have HW : Hid (WW E w0 x g c a n cap t la st B M D w) := h;clear h;go_enter Tryz.func19,Tryz.ntmps19
 go_upto_region 1 with fail
 have H1 : Hid (WW E w0 x g c a n cap t la st B M D (w.alloc (.cells #[I q.x0,I q.x1,I q.x2,I q.x3,I q.x4,I q.x5] 57)) ∧ BoxAt (w.alloc (.cells #[I q.x0,I q.x1,I q.x2,I q.x3,I q.x4,I q.x5] 57)) w.heap.size q ∧ Only [] w (w.alloc (.cells #[I q.x0,I q.x1,I q.x2,I q.x3,I q.x4,I q.x5] 57))) :=
  ⟨HW.out.keep ((Only.refl [] w).alloc _),(MapKept.heap_alloc w _).1,(Only.refl [] w).alloc _⟩
 revert H1;generalize World.alloc w _ = w1;generalize w.heap.size = kb;intro H1
 have HK : Hid (∀ w',Only [] w1 w' → w'.cell? (Y x 8) = some (.pointer (some (Y t 0))) ∧ w'.cell? (Y kb 0) = some (I q.x0) ∧ w'.cell? (Y kb 1) = some (I q.x1) ∧ w'.cell? (Y kb 2) = some (I q.x2) ∧ w'.cell? (Y kb 3) = some (I q.x3) ∧ w'.cell? (Y kb 4) = some (I q.x4) ∧ w'.cell? (Y kb 5) = some (I q.x5)) := fun w' o => by
  have hb := o.box (by simp) H1.out.2.1;exact ⟨(H1.out.1.wa.only o (by simp)).off 8,hb.off 0,hb.off 1,hb.off 2,hb.off 3,hb.off 4,hb.off 5⟩
 refine wp_region_held_drew (S := (fun w' => w'.cell? (Y x 8) = some (.pointer (some (Y t 0))) ∧ Zc w' kb 0 q.x0 ∧ Zc w' kb 1 q.x1 ∧ Zc w' kb 2 q.x2 ∧ Zc w' kb 3 q.x3 ∧ Zc w' kb 4 q.x4 ∧ Zc w' kb 5 q.x5)) (by kernel_rfl) ?_ (fun hJ1 => ?_)
 ·exact HK.out _ (Only.refl [] w1).drew
 refine tkU 0 (h:=tkU 1 (h:=tkU 2 (h:=tkV 3 ?_)));try simp only [zP]
 refine tkV 4 ?_;try simp only [zP]
 refine rdW 5 rfl fun K hK => ?_;simp only [zQ];go_simp
 (go_at_call 56; refine (yeq t 65536 D M q _ (H1.out.1.keep (Only.refl [] w1).drew).tree).mono ?_; rintro e w3 ⟨v,xs,rfl,hs,hp,hr,o3,hn⟩; have H3 : Hid (SlInts w3 v xs ∧ xs.Perm (meetM M q) ∧ xs.Pairwise (fun x y => x < y) ∧ Only [] w1 w3 ∧ (∀ b ∈ ownL v,w1.heap.size ≤ b)) := ⟨hs,hp,hr,(Only.refl [] w1).drew.trans o3,hn⟩; clear hs hp hr o3 hn)
 try go_wp2_with fail
 refine hK.out _ _ ?_ fun hJ2 => ?_
 ·exact HK.out _ H3.out.2.2.2.1
 clear hK K hJ1;try simp only [zP]
 refine tkV 6 ?_;try simp only [zP]
 refine wpAnyH_done (by kernel_rfl) ?_ _;go_wp2_with fail
 go_ret
 exact ⟨v,xs,rfl,H3.out.1,H3.out.2.1,H3.out.2.2.1,H1.out.2.2.trans H3.out.2.2.2.1,fun b hb => Nat.le_trans H1.out.2.2.size (H3.out.2.2.2.2 b hb)⟩
theorem bc_one (b : Bd) (k : Nat) : (bc b k).oneCell' = true := by
 unfold bc; split <;> rfl
theorem bodyInfo17 : (Tryz.prog.info? 45).map (fun i => (i.zero,i.size,i.bytes)) = some (some (.agg #[I 0,I 0,I 0,I 0,I 0,I 0,I 0,I 0,I 0,I 0,I 0,I 0,I 0,I 0,I 0,I 0,I 0]),17,136) := by kernel_rfl
theorem ye1 (g n cap i : Nat) (B : Nat → Bd) (w : World) (hi : i < n) (hn : n ≤ 60) (hc : n ≤ cap) (h : OwnB w g n B) :
  Calls Tryz.prog 42 #[.slice (some (Y g 0)) n cap,I ((i : Int)),I ((i : Int) + 1)] w fun e w' => e = .returned (.slice (some (Y g 0)) (n - 1) cap) ∧ OwnB w' g (n - 1) (delB B i) ∧ Only [g] w w' ∧ ∀ s,SizeAt w g s → SizeAt w' g s := by
 obtain ⟨i2,hi0,hz0,hz1,hz2⟩ := y0k bodyInfo17;obtain ⟨cur,hg,hcur⟩ := h;have hsz := OwnB.size (w := w) (g := g) hcur;have HC : Hid (w.heap[g]? = some (.cells cur 45 (0,0)) ∧ (∀ j,j < n → ∀ k,k < 17 → cur[j * 17 + k]? = some (bc (B j) k)) ∧ n * 17 ≤ cur.size) := ⟨hg,hcur,hsz⟩;clear hg hcur hsz;have hil : (i : Int) < (n : Int) := by omega
 have hi1 : (i : Int) + 1 ≤ (n : Int) := by omega
 have hnc : (n : Int) ≤ (cap : Int) := by omega
 have hne : ¬ (i : Int) = (i : Int) + 1 := by omega
 go_enter Tryz.func42,Tryz.ntmps42
 go_upto_region 5 with fail
 have hic : i ≤ cap := by omega
 have h01 : (0 : Int) ≤ (i : Int) + 1 := by omega
 obtain ⟨ad,had1,had2⟩ : ∃ ad : Addr,(if cap = i + 1 then some (Y g 0) else some (Y g ((i + 1) * 17))) = some ad ∧ (i + 1 < n → ad = (Y g ((i + 1) * 17))) := by
  by_cases e : cap = i + 1
  ·exact ⟨_,if_pos e,fun h => by omega⟩
  ·exact ⟨_,if_neg e,fun _ => rfl⟩
 have HAD : Hid ((if cap = i + 1 then some (Y g 0) else some (Y g ((i + 1) * 17))) = some ad) := had1;clear had1;refine wp_region_held_drew (S := (fun w' => True)) (by kernel_rfl) ?_ (fun hJ1 => ?_)
 ·(try dsimp only); first | done | trivial
 refine tkU 0 (h:=tkU 1 (h:=tkU 2 (h:=tkV 3 ?_)));try simp only [zP]
 refine tkV 4 ?_;try simp only [zP]
 refine tkW (v := .slice (some ad) (n - (i + 1)) (cap - (i + 1))) 5 rfl ?_ (by intro w'' hSw; (try dsimp only at hSw); simp only [zQ]; go_simp; rw [HAD.out]);try simp only [zP]
 have hnews : ∀ j u,(delNews cur.toList i n)[j]? = some u → w.drew.cell? (ad.add j) = some u := fun j u hj => by
  have hlt := (List.getElem?_eq_some_iff.1 hj).1;rw [y26 hi (by simpa using HC.out.2.2)] at hlt
  have h1 : i + 1 < n := by
   rcases Nat.lt_or_ge (i + 1) n with q | q
   ·exact q
   ·have : n - 1 - i = 0 := by omega
    rw [this] at hlt; omega
  rw [had2 h1,show (Y g ((i + 1) * 17)).add j = (Y g ((i + 1) * 17 + j)) from by unfold Addr.add; split <;> simp_all];unfold delNews at hj;rw [List.getElem?_take,if_pos (by omega),List.getElem?_drop,Array.getElem?_toList] at hj;have hh : w.drew.heap[g]? = some (.cells cur 45 (0,0)) := HC.out.1;simp only [World.cell?,hh,Option.isSome_none,Bool.false_eq_true,if_false];exact hj
 have hone : ∀ u ∈ delNews cur.toList i n,u.oneCell' = true := fun u hu => by
  obtain ⟨j,hj,e⟩ := List.getElem_of_mem hu;have hj2 : (delNews cur.toList i n)[j]? = some u := by rw [List.getElem?_eq_getElem hj,e]
  have hlt := hj;rw [y26 hi (by simpa using HC.out.2.2)] at hlt;unfold delNews at hj2;rw [List.getElem?_take,if_pos hlt,List.getElem?_drop,Array.getElem?_toList] at hj2;have hb := HC.out.2.1 (((i + 1) * 17 + j) / 17) (by omega) (((i + 1) * 17 + j) % 17) (by omega);rw [show ((i + 1) * 17 + j) / 17 * 17 + ((i + 1) * 17 + j) % 17 = (i + 1) * 17 + j by omega,hj2] at hb;injection hb with hb
  rw [hb];exact bc_one _ _
 have hrun := run_append_room (P := Tryz.prog) w.drew 36 36 45 i2 Tryz.underlying36 hi0 g i cap cur HC.out.1 ad (n - (i + 1)) (cap - (i + 1)) (delNews cur.toList i n) (by rw [y26 hi (by simpa using HC.out.2.2),hz1]; omega) hnews hone (by omega) (by rw [y26 hi (by simpa using HC.out.2.2),hz1]; have := HC.out.2.2; omega);rw [hz1] at hrun;have HA : Hid ((w.drew.setRow g (delArr cur.toList i n).toArray).heap[g]? = some (.cells (delArr cur.toList i n).toArray 45 (0,0)) ∧ Only [g] w (w.drew.setRow g (delArr cur.toList i n).toArray)) := ⟨setRow_heap w.drew g cur _ _ _ HC.out.1,(Only.refl [g] w).drew.setRow (Or.inl (by simp)) _⟩
 have hrun2 : (Builtin.append_ #[36,36] 36 #[.slice (some (Y g 0)) i cap,.slice (some ad) (n - (i + 1)) (cap - (i + 1))]).run Tryz.prog w.drew = .ok (.slice (some (Y g 0)) (n - 1) cap) (w.drew.setRow g (delArr cur.toList i n).toArray) := by
  rw [hrun,show i + (n - (i + 1)) = n - 1 by omega]; rfl
 clear hrun hnews hone;refine rdW 6 rfl fun K hK => ?_;refine y0z (s := .tmp 22) (x := .tmp 25) (t := 36) rfl (by kernel_rfl) (by kernel_rfl) hrun2 ?_;refine hK.out _ _ ?_ fun hJ3 => ?_
 ·(try dsimp only); first | done | trivial
 clear hK K hrun2 hJ1;try simp only [zP]
 generalize World.setRow w.drew g _ = w2 at HA hJ3 ⊢;refine tkV 7 ?_;try simp only [zP]
 refine wpAnyH_done (by kernel_rfl) ?_ _;have hsub : n - (n - 1) = 1 := by omega
 have hcn : ¬ cap = n - 1 := by omega
 have hle1 : n - 1 ≤ n := by omega
 have hle2 : ((n - 1 : Nat) : Int) ≤ (n : Int) := by omega
 have hclr := fun ty => yeh w2 ty g (n - 1) (cap - (n - 1)) (delArr cur.toList i n).toArray HA.out.1 (by have h1 := y4u (cur := cur.toList) hi (by simpa using HC.out.2.2); have h2 := HC.out.2.2; simp only [List.size_toArray]; rw [h1]; simp; omega);go_wp2_with fail
 go_ret
 have hlen := HC.out.2.2;have hs1 : n * 17 ≤ (delArr cur.toList i n).length := by rw [y4u hi (by simpa using hlen)]; simpa using hlen
 have e : List.take ((n - 1) * 17) (delArr cur.toList i n) ++ (zeros17 ++ List.drop ((n - 1) * 17 + 17) (delArr cur.toList i n)) = delArr2 (delArr cur.toList i n) n := by unfold delArr2; rw [List.append_assoc]
 rw [e];have hh := setRow_heap w2 g (delArr cur.toList i n).toArray (delArr2 (delArr cur.toList i n) n).toArray 45 (0,0) HA.out.1;refine ⟨rfl,⟨_,hh,yh9 (w := w) (g := g) hi hlen HC.out.2.1⟩,HA.out.2.setRow (Or.inl (by simp)) _,fun s hs => ?_⟩;obtain ⟨cur',h1,h2⟩ := hs;have h3 := HC.out.1.symm.trans h1;injection h3 with h3
 injection h3 with h3 _ _;refine ⟨_,hh,?_⟩;rw [List.size_toArray,← h2,← h3];unfold delArr2;have hd := y4u (cur := cur.toList) hi (by simpa using hlen);simp only [List.length_append,List.length_take,List.length_drop,hd,show zeros17.length = 17 from rfl,Array.length_toList];omega
def RemPost (E : List Nat) (w0 : World) (x g : Nat) (c : Wc) (a : Option Addr) (n cap t : Nat) (la st : Int) (B : Nat → Bd) (M : List (Int × Bx)) (D : List Nat) (id : Int) (w : World) (e : Ending) (w' : World) : Prop :=
 ∃ (r : Nat) (v : Bool),FindIs B n id r v ∧
  ((v = false ∧ e = .returned (errV 7) ∧ WW E w0 x g c a n cap t la st B M D w' ∧ Only [] w w') ∨
   (v = true ∧ e = .returned .nilIface ∧ ∃ D',WW E w0 x g c a (n - 1) cap t la st (delB B r) (del M id) D' w' ∧ Room w' a (n - 1) cap))
theorem ycl (w0 : World) (x g : Nat) (c : Wc) (a : Option Addr) (n cap t : Nat) (la st : Int) (B : Nat → Bd) (M : List (Int × Bx)) (D : List Nat) (id : Int) (w : World) (hn : n ≤ 60) (hid : In64 id) (hM : ∀ j,j < n → (B j).id ∈ M.map Prod.fst) (h : WW E w0 x g c a n cap t la st B M D w) (hroom : Room w a n cap) :
  Calls Tryz.prog 9 #[.pointer (some (Y x 0)),I id] w (RemPost E w0 x g c a n cap t la st B M D id w) := by
 have HW : Hid (WW E w0 x g c a n cap t la st B M D w ∧ n ≤ 60 ∧ Room w a n cap ∧ In64 id ∧ (∀ j,j < n → (B j).id ∈ M.map Prod.fst)) := ⟨h,hn,hroom,hid,hM⟩;clear h hn hroom hid hM;go_enter Tryz.func9,Tryz.ntmps9
 go_wp2_with fail
 refine (y5b x id c a n cap t la st B w HW.out.2.1 HW.out.1.wa HW.out.1.own.bodies).mono ?_;rintro e w1 ⟨r,v,rfl,hf,o1⟩;have H1 : Hid (FindIs B n id r v ∧ Only [] w w1 ∧ WW E w0 x g c a n cap t la st B M D w1) := ⟨hf,o1,HW.out.1.keep o1⟩;clear hf o1
 cases v with
 | false =>
  go_wp2_with fail
  go_ret
  exact ⟨r,false,H1.out.1,Or.inl ⟨rfl,rfl,H1.out.2.2,H1.out.2.1⟩⟩
 | true =>
  have hr : r < n ∧ (B r).id = id := by have := H1.out.1.2; simpa using this.symm
  obtain ⟨ha,hO⟩ : a = some (Y g 0) ∧ OwnB w1 g n B := by
   rcases H1.out.2.2.own with q | q
   ·omega
   ·exact q
  subst ha
  obtain ⟨hnc,hmx,hsz⟩ : n ≤ cap ∧ cap ≤ maxLen ∧ SizeAt w g (cap * 17) := by
   rcases HW.out.2.2.1 with ⟨e,_,_⟩ | ⟨g',e,h1,h2,h3⟩
   ·cases e
   ·injection e with e; injection e with e _ _; subst e; exact ⟨h1,h2,h3⟩
  have HO : Hid (OwnB w1 g n B ∧ r < n ∧ (B r).id = id ∧ n ≤ cap ∧ cap ≤ maxLen ∧ SizeAt w1 g (cap * 17)) := ⟨hO,hr.1,hr.2,hnc,hmx,hsz.only H1.out.2.1 (by simp)⟩;clear hO hsz hmx;have hrl : (r : Int) < 60 := by have := HW.out.2.1; omega
  have s7 := H1.out.2.2.wa.off 7;simp only [zR] at s7;clear hr hnc;go_wp2_with fail
  refine (ye1 g n cap r B w1 HO.out.2.1 HW.out.2.1 HO.out.2.2.2.1 HO.out.1).mono ?_;rintro e w2 ⟨rfl,hO2,o2,hs2⟩;have H2 : Hid (WorldAt w2 x c (some (Y g 0)) n cap t la st ∧ OwnB w2 g (n - 1) (delB B r) ∧ Only [g] w1 w2 ∧ SizeAt w2 g (cap * 17)) := ⟨H1.out.2.2.wa.only o2 (by simp only [zrc]; exact H1.out.2.2.xg),hO2,o2,hs2 _ HO.out.2.2.2.2.2⟩;clear hO2 o2 hs2 s7;have s7 := H2.out.1.off 7; have f7 := H2.out.1.free 7;simp only [zR] at s7;have H3 : Hid (WorldAt (w2.setCell (Y x 7) (.slice (some (Y g 0)) (n - 1) cap)) x c (some (Y g 0)) (n - 1) cap t la st ∧ Only [x] w2 (w2.setCell (Y x 7) (.slice (some (Y g 0)) (n - 1) cap))) := ⟨H2.out.1.slice _ _ _,(Only.refl [x] w2).setCell (p := Y x 7) (Or.inl (by simp)) _⟩;go_upto_region 5 with fail
  clear s7 f7;generalize World.setCell w2 _ _ = w3 at H3 ⊢;have s8 := H3.out.1.off 8;simp only [zR] at s8;go_wp2_with fail
  have hT : TreeIs w3 t 65536 D M := (H1.out.2.2.tree.only H2.out.2.2.1 (fun b hb => by simp only [zrc]; exact fun e => H1.out.2.2.gD (e ▸ hb))).only H3.out.2 (fun b hb => by simp only [zrc]; exact fun e => H1.out.2.2.xD (e ▸ hb));refine (y8w t 65536 D M id w3 hT HW.out.2.2.2.1 (by have := HW.out.2.2.2.2 r HO.out.2.1; rw [HO.out.2.2.1] at this; exact this)).mono ?_;rintro e w4 ⟨rfl,D',hT4,hsub,o4⟩
  have H4 : Hid (WW E w0 x g c (some (Y g 0)) (n - 1) cap t la st (delB B r) (del M id) D' w4 ∧ Room w4 (some (Y g 0)) (n - 1) cap) := by
   have hxD := H1.out.2.2.xD; have hgD := H1.out.2.2.gD;have hO3 : OwnB w3 g (n - 1) (delB B r) := H2.out.2.1.only H3.out.2 (by simp only [zrc]; exact fun e => H1.out.2.2.xg e.symm);have hS3 : SizeAt w3 g (cap * 17) := H2.out.2.2.2.only H3.out.2 (by simp only [zrc]; exact fun e => H1.out.2.2.xg e.symm);have hnc := HO.out.2.2.2.1;refine ⟨⟨H3.out.1.only o4 hxD,Or.inr ⟨rfl,hO3.only o4 hgD⟩,hT4,fun k => hxD (hsub _ k),fun k => hgD (hsub _ k),?_,H1.out.2.2.xg,H1.out.2.2.xnew,H1.out.2.2.gnew,fun b hb => H1.out.2.2.dnew b (hsub b hb),?_⟩,Or.inr ⟨g,rfl,by omega,HO.out.2.2.2.2.1,hS3.only o4 hgD⟩⟩
   ·have := H1.out.2.2.glt; have := H2.out.2.2.1.size; have := H3.out.2.size; have := o4.size; omega
   ·exact ((H1.out.2.2.only.then H2.out.2.2.1 (fun b hb => by simp only [zrc] at hb; rw [hb]; exact H1.out.2.2.gnew)).then H3.out.2 (fun b hb => by simp only [zrc] at hb; rw [hb]; exact H1.out.2.2.xnew)).then o4 (fun b hb => H1.out.2.2.dnew b hb)
  clear hT hT4 hsub o4 s8;go_wp2_with fail
  go_ret
  exact ⟨r,true,H1.out.1,Or.inr ⟨rfl,rfl,D',H4.out.1,H4.out.2⟩⟩
theorem ybo (h : ∀ i,i < n → (B i).id ≠ id) : findX B id n = none := by
 cases e : findX B id n with
 | none => rfl
 | some r => exact absurd (y0c e).2 (h r (y0c e).1)
theorem FindIs.found (hr : Rises B n) (h : FindIs B n id r true) : findX B id n = some r := by
 have h2 := h.2;simp at h2;refine y3n h2.1 h2.2 (fun x hx => ?_);have := hr x r hx h2.1;omega
theorem FindIs.lost (hr : Rises B n) (h : FindIs B n id r false) : findX B id n = none := by
 have h2 := h.2;simp at h2;have h1 := h.1;refine ybo (fun j hj => ?_);obtain ⟨hrn,ha,hb⟩ := h1;by_cases hjr : j < r
 ·have h3 : (B (r - 1)).id < id := by
   rcases ha with e | e
   ·omega
   ·exact e
  by_cases e : j = r - 1
  ·rw [e]; omega
  ·have := hr j (r - 1) (by omega) (by omega)
   omega
 ·have hrn2 : r < n := by omega
  have h3 : id ≤ (B r).id := by
   rcases hb with e | e
   ·omega
   ·exact e
  have h4 := h2 hrn2;by_cases e : j = r
  ·rw [e]; exact h4
  ·have := hr r j (by omega) hj
   omega
theorem Rises.del (h : Rises B n) (r : Nat) : Rises (delB B r) (n - 1) := by
 intro i k hik hk;unfold delB;by_cases h1 : i < r
 ·rw [if_pos h1]
  by_cases h2 : k < r
  ·rw [if_pos h2]; exact h i k hik (by omega)
  ·rw [if_neg h2]; exact h i (k + 1) (by omega) (by omega)
 ·rw [if_neg h1,if_neg (by omega)]; exact h (i + 1) (k + 1) (by omega) (by omega)
theorem Rises.same {C : Nat → Bd} (h : Rises B n) (e : ∀ i,i < n → (C i).id = (B i).id) : Rises C n := fun i k hik hk => by
 rw [e i (by omega),e k hk]; exact h i k hik hk
theorem Rises.push (h : Rises B n) (r : Nat) (x y z : Int) : Rises (upd B r (pushB (B r) x y z)) n := h.same (fun i _ => by
 unfold upd;split
 ·rename_i e; rw [e]; rfl
 ·rfl)
theorem Rises.spawn (h : Rises B n) {k : Int} (hk : ∀ i,i < n → (B i).id < k) : Rises (upd B n (numB q k)) (n + 1) := by
 intro i j hij hj;unfold upd;rw [if_neg (by omega)];split
 ·exact hk i (by omega)
 ·exact h i j hij (by omega)
def IntsAt (w : World) (a : Option Addr) (xs : List Int) : Prop := ∀ j (hj : j < xs.length),∃ g,a = some ⟨g,0,none⟩ ∧ w.cell? ⟨g,j,none⟩ = some (J U (xs[j]))
theorem IntsAt.only {a : Option Addr} (h : IntsAt w a xs) (o : Only [] w w') : IntsAt w' a xs := fun j hj => by
 obtain ⟨g,e,hc⟩ := h j hj;exact ⟨g,e,by rw [World.cell?_of_block (w := w) (o.block g (World.block_lt_of_cell? w (Y g j) hc) (by simp))]; exact hc⟩
theorem y9h (a b : Option Addr) (c d : Nat) (xs : List Int) (n : Nat) (w : World) (hx : xs.length = n) (hn : n ≤ 1000000) (h : IntsAt w a xs) (h' : IntsAt w b xs) :
  Calls Tryz.prog 18 #[.slice a n c,.slice b n d] w fun e w' => e = .returned (.bool true) ∧ Only [] w w' := by
 have HB : Hid (IntsAt w a xs ∧ IntsAt w b xs ∧ n ≤ 1000000 ∧ xs.length = n) := ⟨h,h',hn,hx⟩;clear h h' hn hx;go_enter Tryz.func18,Tryz.ntmps18
 go_wp2_with fail
 go_loopg [5] n (fun k idx wr => ∃ i : Nat,idx = I (i : Int) ∧ Hid (i ≤ n ∧ k = n - i) ∧ Hid (Only [] w wr))
 case atStart => exact ⟨0,rfl,⟨by omega,rfl⟩,Only.refl _ _⟩
 case round =>
  obtain ⟨i,rfl,H1,HO⟩ := hrel;have hn := HB.out.2.2.1;by_cases hi : i < n
  ·have hil : (i : Int) < (n : Int) := by omega
   have hix : i < xs.length := by have := HB.out.2.2.2; omega
   obtain ⟨g,rfl,c1⟩ := (HB.out.1.only HO.out) i hix;obtain ⟨g',rfl,c2⟩ := (HB.out.2.1.only HO.out) i hix;generalize xs[i] = y at c1 c2;go_wp2_with fail
   go_quiet (fail)
   go_wp2_with fail
   go_roundg (n - (i + 1))
   case measure => have := H1.out.2; omega
   case rel => exact ⟨i + 1,by go_num,⟨by omega,rfl⟩,HO.out.trans (Only.drewN _ _)⟩
  ·have hil : ¬ (i : Int) < (n : Int) := by omega
   go_wp2_with fail
   go_ret
   exact ⟨rfl,HO.out⟩
def NumsAt (base : Nat) (w : World) (v : Value) (xs : List Int) : Prop := w.ownsRow base 3 1 v xs.length (xs.map (Value.int .i64))
theorem yko (base : Nat) (w : World) (v : Value) (xs ys : List Int) (h : NumsAt base w v xs) (hb : base ≤ w.heap.size) (ad : Addr) (m c : Nat) (hm : ys.length = m) (hc : ∀ j u,(ys.map (Value.int .i64))[j]? = some u → w.cell? (ad.add j) = some u) (hl : xs.length + m ≤ 1000000) :
  ∃ v' w',(Builtin.append_ #[58,58] 58 #[v,.slice (some ad) m c]).run Tryz.prog w = .ok v' w' ∧ NumsAt base w' v' (xs ++ ys) ∧ (∀ wd,Only [] wd w → wd.heap.size ≤ base → Only [] wd w') ∧ w.heap.size ≤ w'.heap.size ∧ (∀ b,v.ownBlock ≠ some b → b < w.heap.size → w'.heap[b]? = w.heap[b]?) := by
 obtain ⟨i2,hi0,hz0,hz1,hz2⟩ := y0k intInfo;obtain ⟨v',w',hr,hown,hgrow,hnil,hloc⟩ := run_append_own_at (P := Tryz.prog) w base 58 58 3 i2 (I 0) 1 8 Tryz.underlying58 hi0 hz0 hz1 hz2 rfl (by decide) v xs.length (xs.map (Value.int .i64)) h ad m c (ys.map (Value.int .i64)) (by simp [hm]) hc (by intro u hu; simp only [List.mem_map] at hu; obtain ⟨y,_,rfl⟩ := hu; rfl) (by unfold maxLen; omega) (by omega) hb;refine ⟨v',w',hr,?_,fun wd o hs => o.grown hgrow (fun k hk => Or.inr ?_),hgrow.size,fun b hne hlt => hgrow.block b hlt (fun e => hne e.symm)⟩
 ·unfold NumsAt; rw [List.length_append,List.map_append,hm]; exact hown
 ·have := rowsBlock h hk; omega
theorem NumsAt.apart (h : NumsAt base w v xs) {cs : Array Value} {t : TypeId} {e : Nat × Nat} (hk : w.heap[k]? = some (.cells cs t e)) (ht : t ≠ 3) : v.ownBlock ≠ some k := by
 intro hv;obtain ⟨hl,⟨rfl,hn⟩ | ⟨g,cp,cur,rfl,hb,hh,h1,h2,h3,h4⟩⟩ := h
 ·simp [Value.ownBlock] at hv
 ·simp only [Value.ownBlock,Option.some.injEq] at hv
  subst hv;have e := hh.symm.trans hk;injection e with e
  injection e with e1 e2 e3;exact ht e2.symm
theorem NumsAt.shape (h : NumsAt base w v xs) : ∃ a c,v = .slice a xs.length c ∧ IntsAt w a xs := by
 obtain ⟨h1,⟨rfl,h2⟩ | ⟨g,cap,cur,rfl,hb,hg,hn,hc,hs,ht⟩⟩ := h
 ·exact ⟨none,0,by rw [h2],fun j hj => by omega⟩
 ·refine ⟨some (Y g 0),cap,rfl,fun j hj => ⟨g,rfl,?_⟩⟩
  have e : (cur.toList.take (xs.length * 1))[j]? = some (I (xs[j])) := by rw [ht]; simp [hj]
  rw [List.getElem?_take] at e;simp only [Nat.mul_one,hj,if_true] at e;simp only [World.cell?,hg,Option.isSome_none,Bool.false_eq_true,if_false];rw [← e,Array.getElem?_toList]
def VecsAt (w : World) (k : Nat) (q : Bd) : Prop := w.heap[k]? = some (.cells #[J U q.sx,J U q.sy,J U q.sz,J U q.ax,J U q.ay,J U q.az,J U q.vx,J U q.vy,J U q.vz,J U q.px,J U q.py,J U q.pz] 23)
theorem VecsAt.off (h : VecsAt w k q) (j : Nat) : w.cell? (Y k j) = (#[I q.sx,I q.sy,I q.sz,I q.ax,I q.ay,I q.az,I q.vx,I q.vy,I q.vz,I q.px,I q.py,I q.pz] : Array Value)[j]? := by unfold VecsAt at h; simp [World.cell?,h]
structure DgW (w : World) (base kb : Nat) (q : Bd) (v : Value) (xs : List Int) (wr : World) : Prop where
 only : Only [] w wr
 nums : NumsAt base wr v xs
 body : BodyAt wr kb q
 size : w.heap.size ≤ base ∧ base ≤ wr.heap.size
theorem DgW.keep (h : DgW w base kb q v xs wr) (k : Kept wr w') (hn : NumsAt base w' v xs) : DgW w base kb q v xs w' :=
 ⟨h.only.trans (Only.of_kept k),hn,h.body.only (Only.of_kept k),h.size.1,Nat.le_trans h.size.2 (Only.of_kept (D := []) k).size⟩
theorem DgW.more (h : DgW w base kb q v xs wr) (ys : List Int) (ad : Addr) (m c : Nat) (hm : ys.length = m) (hc : ∀ j u,(ys.map (Value.int .i64))[j]? = some u → wr.cell? (ad.add j) = some u) (hl : xs.length + m ≤ 1000000) :
  ∃ v' w',(Builtin.append_ #[58,58] 58 #[v,.slice (some ad) m c]).run Tryz.prog wr = .ok v' w' ∧ DgW w base kb q v' (xs ++ ys) w' ∧ ∀ k,VecsAt wr k q → VecsAt w' k q := by
 obtain ⟨v',w',hr,hn,ho,hsz,hk⟩ := yko base wr v xs ys h.nums h.size.2 ad m c hm hc hl;have o := ho w h.only h.size.1;refine ⟨v',w',hr,⟨o,hn,?_,h.size.1,Nat.le_trans h.size.2 hsz⟩,fun k hv => ?_⟩
 ·exact (hk kb (h.nums.apart h.body (by decide)) (Array.getElem?_eq_some_iff.1 h.body).1).trans h.body
 ·exact (hk k (h.nums.apart hv (by decide)) (Array.getElem?_eq_some_iff.1 hv).1).trans hv
end Go.Proofs.YtbenlgandjjopaaGreatDoor
