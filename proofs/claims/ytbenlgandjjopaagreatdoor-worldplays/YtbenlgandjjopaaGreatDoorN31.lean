/- . -/
import Derived.Test.YtbenlgandjjopaaGreatDoorN30
import Derived.Test.YtbenlgandjjopaaGreatDoorN27
open Go.Value renaming int → J
open Go.IntKind renaming i64 → U
open List renaming mem_singleton → zrc,mem_cons → zrd
namespace Go.Proofs.YtbenlgandjjopaaGreatDoor
set_option maxRecDepth 100000
set_option maxHeartbeats 8000000
open Go.ChangeShapes Go.WideShapes Go.ChangeAt Go.RowKit
set_option linter.unusedSimpArgs false
variable {B C : Nat → Bd} {n i : Nat} {q p : Bd} {a b s p0 p1 p2 b0 b1 b2 b3 b4 b5 : Int} {w : World}
theorem y2v (n : Int) : (70368744177664 < n ∧ cut n = 70368744177664) ∨ (n < -70368744177664 ∧ cut n = -70368744177664) ∨ (-70368744177664 ≤ n ∧ n ≤ 70368744177664 ∧ cut n = n) := by
 unfold cut; split
 ·omega
 ·split <;> omega
theorem y9t (h : cut b ≤ cut a) : 0 ≤ sub a b := by
 unfold sub;rcases y2v (cut a - cut b) with ⟨_,e⟩ | ⟨_,e⟩ | ⟨_,_,e⟩ <;> omega
theorem yaz {p L H : Int} (hL : -70368744177664 ≤ L ∧ L ≤ 70368744177664) (hH : -70368744177664 ≤ H ∧ H ≤ 70368744177664) (hLH : L ≤ H) (h : gap p L H = 0) : L ≤ cut p ∧ cut p ≤ H := by
 unfold gap sub at h
 have e1 : cut (near p L H) = cut p := by
  rcases y2v (cut (near p L H) - cut p) with ⟨_,e⟩ | ⟨_,e⟩ | ⟨_,_,e⟩ <;> omega
 clear h;have e2 := y0l hL.1 hL.2;have e3 := y0l hH.1 hH.2;unfold near greater lesser at e1;rcases y2v p with ⟨_,e⟩ | ⟨_,e⟩ | ⟨_,_,e⟩
 all_goals
  by_cases g1 : H < p
  ·rw [if_pos g1] at e1
   by_cases g2 : H < L
   ·omega
   ·rw [if_neg g2] at e1; omega
  ·rw [if_neg g1] at e1
   by_cases g2 : p < L
   ·rw [if_pos g2] at e1; omega
   ·rw [if_neg g2] at e1; omega
theorem sides {q x : Int} (h : 1 ≤ x ∧ x ≤ 3276800) : sub q x ≤ add q x := by
 have e := y0l (n := x) (by omega) (by omega);unfold sub add; rw [e];have a := y19 q; have b := y1a q;rcases y2v (cut q - x) with ⟨_,e1⟩ | ⟨_,e1⟩ | ⟨_,_,e1⟩ <;> rcases y2v (cut q + x) with ⟨_,e2⟩ | ⟨_,e2⟩ | ⟨_,_,e2⟩ <;> omega
theorem in_deep (hs : 1 ≤ s ∧ s ≤ 3276800)
  (l0 : -70368744177664 ≤ b0 ∧ b0 ≤ 70368744177664) (l1 : -70368744177664 ≤ b1 ∧ b1 ≤ 70368744177664) (l2 : -70368744177664 ≤ b2 ∧ b2 ≤ 70368744177664)
  (l3 : -70368744177664 ≤ b3 ∧ b3 ≤ 70368744177664) (l4 : -70368744177664 ≤ b4 ∧ b4 ≤ 70368744177664) (l5 : -70368744177664 ≤ b5 ∧ b5 ≤ 70368744177664)
  (h0 : b0 ≤ b3) (h1 : b1 ≤ b4) (h2 : b2 ≤ b5) (g0 : gap p0 b0 b3 = 0) (g1 : gap p1 b1 b4 = 0) (g2 : gap p2 b2 b5 = 0) :
  ¬ add (outE p0 p1 p2 p0 p1 p2 b0 b1 b2 b3 b4 b5).d s ≤ 0 := by
 obtain ⟨x0,y0⟩ := yaz l0 l3 h0 g0;obtain ⟨x1,y1⟩ := yaz l1 l4 h1 g1;obtain ⟨x2,y2⟩ := yaz l2 l5 h2 g2;have c0 := y0l l0.1 l0.2; have c1 := y0l l1.1 l1.2; have c2 := y0l l2.1 l2.2;have c3 := y0l l3.1 l3.2; have c4 := y0l l4.1 l4.2; have c5 := y0l l5.1 l5.2;have d0 : 0 ≤ sub p0 b0 := y9t (by omega);have d1 : 0 ≤ sub b3 p0 := y9t (by omega);have d2 : 0 ≤ sub p1 b1 := y9t (by omega);have d3 : 0 ≤ sub b4 p1 := y9t (by omega);have d4 : 0 ≤ sub p2 b2 := y9t (by omega);have d5 : 0 ≤ sub b5 p2 := y9t (by omega)
 have hd : 0 ≤ (outE p0 p1 p2 p0 p1 p2 b0 b1 b2 b3 b4 b5).d := by
  unfold outE pickE;simp only [or_d];omega
 generalize (outE p0 p1 p2 p0 p1 p2 b0 b1 b2 b3 b4 b5).d = D at hd ⊢;have e := y0l (n := s) (by omega) (by omega);unfold add; rw [e];rcases y2v D with ⟨_,e1⟩ | ⟨_,e1⟩ | ⟨_,_,e1⟩ <;> rcases y2v (cut D + s) with ⟨_,e2⟩ | ⟨_,e2⟩ | ⟨_,_,e2⟩ <;> omega
theorem y9b (hs : 1 ≤ s ∧ s ≤ 3276800)
  (l0 : -70368744177664 ≤ b0 ∧ b0 ≤ 70368744177664) (l1 : -70368744177664 ≤ b1 ∧ b1 ≤ 70368744177664) (l2 : -70368744177664 ≤ b2 ∧ b2 ≤ 70368744177664)
  (l3 : -70368744177664 ≤ b3 ∧ b3 ≤ 70368744177664) (l4 : -70368744177664 ≤ b4 ∧ b4 ≤ 70368744177664) (l5 : -70368744177664 ≤ b5 ∧ b5 ≤ 70368744177664)
  (h0 : b0 ≤ b3) (h1 : b1 ≤ b4) (h2 : b2 ≤ b5) : refBallT s p0 p1 p2 b0 b1 b2 b3 b4 b5 = ballT s p0 p1 p2 b0 b1 b2 b3 b4 b5 := by
 unfold refBallT ballT ballV;split
 ·rename_i h
  rw [y42 (in_deep hs l0 l1 l2 l3 l4 l5 h0 h1 h2 h.1 h.2.1 h.2.2)]; rfl
 ·rfl
theorem negT_eq {t : T} (h : Low t) : negT t = turnT t := by
 obtain ⟨h1,h2,h3⟩ := h;unfold negT turnT; rw [y1g h1,y1g h2,y1g h3]
theorem ydb (a0 a1 a2 a3 a4 a5 b0 b1 b2 b3 b4 b5 : Int) : refBoxesT a0 a1 a2 a3 a4 a5 b0 b1 b2 b3 b4 b5 = boxesT a0 a1 a2 a3 a4 a5 b0 b1 b2 b3 b4 b5 := by
 unfold refBoxesT boxesT doneT;by_cases h : meetB a0 a1 a2 a3 a4 a5 b0 b1 b2 b3 b4 b5 = true
 ·rw [if_pos h]
  by_cases k : (outE a0 a1 a2 a3 a4 a5 b0 b1 b2 b3 b4 b5).d ≤ 0
  ·rw [if_pos k,if_neg (by omega)]
  ·rw [if_neg k,if_pos ⟨h,by omega⟩]
 ·rw [if_neg h,if_neg (fun e => h e.1)]
theorem y7e (ka xa ya za p0 p1 p2 kb xb yb zb q0 q1 q2 : Int) (w : World) (ha : rightB ka xa ya za = true) (hb : rightB kb xb yb zb = true) :
  Calls Tryz.prog 59 #[.agg #[I ka,I xa,I ya,I za],.agg #[I p0,I p1,I p2],.agg #[I kb,I xb,I yb,I zb],.agg #[I q0,I q1,I q2]] w fun e w' => e = .returned (.tuple #[.agg #[I ((touchT ka xa ya za p0 p1 p2 kb xb yb zb q0 q1 q2).x),I ((touchT ka xa ya za p0 p1 p2 kb xb yb zb q0 q1 q2).y),I ((touchT ka xa ya za p0 p1 p2 kb xb yb zb q0 q1 q2).z)],I ((touchT ka xa ya za p0 p1 p2 kb xb yb zb q0 q1 q2).d),.bool (touchT ka xa ya za p0 p1 p2 kb xb yb zb q0 q1 q2).ok]) ∧ Kept w w' := by
 rw [y0j] at ha hb;by_cases h : ka = 1
 ·by_cases h' : kb = 1
  ·rw [y6b h h',y8p]
   exact yby ka xa ya za p0 p1 p2 kb xb yb zb q0 q1 q2 w h h'
  ·rw [y3g h h',← y9b (by omega) (y2s _ _) (y2s _ _) (y2s _ _) (y2q _ _) (y2q _ _) (y2q _ _) (sides (by omega)) (by rw [y4b h']; exact sides (by omega)) (by rw [y4b h']; exact sides (by omega))]
   exact y66 ka xa ya za p0 p1 p2 kb xb yb zb q0 q1 q2 w h h'
 ·by_cases h' : kb = 1
  ·rw [y3i h h',← negT_eq (y45 _ _ _ _ _ _ _ _ _ _),← y9b (by omega) (y2s _ _) (y2s _ _) (y2s _ _) (y2q _ _) (y2q _ _) (y2q _ _) (sides (by omega)) (by rw [y4b h]; exact sides (by omega)) (by rw [y4b h]; exact sides (by omega))]
   exact ybc ka xa ya za p0 p1 p2 kb xb yb zb q0 q1 q2 w h h'
  ·rw [y6h h h',← ydb]
   exact yb3 ka xa ya za p0 p1 p2 kb xb yb zb q0 q1 q2 w h h'
set_option linter.unusedVariables false
def boxesB (B : Nat → Bd) : Nat → List (Int × Bx)
 | 0 => []
 | k + 1 => ((B k).id,boxB (B k)) :: boxesB B k
theorem yah (B : Nat → Bd) : ∀ n,(boxesB B n).length = n
 | 0 => rfl
 | n + 1 => by simp [boxesB,yah B n]
theorem y6m {B : Nat → Bd} {p : Int × Bx} : ∀ {n : Nat},p ∈ boxesB B n ↔ ∃ j,j < n ∧ p = ((B j).id,boxB (B j))
 | 0 => by simp [boxesB]
 | n + 1 => by
  simp only [boxesB,zrd,y6m (n := n)];constructor
  ·rintro (e | ⟨j,hj,e⟩)
   ·exact ⟨n,by omega,e⟩
   ·exact ⟨j,by omega,e⟩
  ·rintro ⟨j,hj,e⟩
   by_cases q : j = n
   ·subst q; exact Or.inl e
   ·exact Or.inr ⟨j,by omega,e⟩
theorem y1w {B C : Nat → Bd} : ∀ {n : Nat},(∀ j,j < n → B j = C j) → boxesB B n = boxesB C n
 | 0,_ => rfl
 | n + 1,h => by
  simp only [boxesB];rw [h n (by omega),y1w (n := n) (fun j hj => h j (by omega))]
theorem y91 {i : Int} : i ∈ (boxesB B n).map Prod.fst ↔ ∃ j,j < n ∧ (B j).id = i := by
 rw [List.mem_map];constructor
 ·rintro ⟨p,hp,rfl⟩
  obtain ⟨j,hj,rfl⟩ := y6m.1 hp;exact ⟨j,hj,rfl⟩
 ·rintro ⟨j,hj,rfl⟩
  exact ⟨_,y6m.2 ⟨j,hj,rfl⟩,rfl⟩
theorem yaj (C : Nat → Bd) (b : Bd) : ∀ (n k : Nat),k < n → Alone n C → b.id = (C k).id → ((b.id,boxB b) :: del (boxesB C n) b.id).Perm (boxesB (upd C k b) n)
 | 0,k,h,_,_ => by omega
 | n + 1,k,h,ha,hb => by
  by_cases e : k = n
  ·subst e
   have e1 : del (boxesB C (k + 1)) b.id = boxesB C k := by
    have hn : b.id ∉ (boxesB C k).map Prod.fst := fun q => by
     obtain ⟨j,hj,hji⟩ := y91.1 q;have := ha j k (by omega) (by omega) (by rw [hji,hb]);omega
    have e2 : del (boxesB C (k + 1)) b.id = del (boxesB C k) b.id := by
     unfold del; simp [boxesB,hb]
    rw [e2,y4x hn]
   rw [e1]
   have e3 : boxesB (upd C k b) (k + 1) = (b.id,boxB b) :: boxesB C k := by
    simp only [boxesB];rw [show upd C k b k = b from by unfold upd; rw [if_pos rfl],y1w (B := upd C k b) (C := C) (fun j hj => by unfold upd; rw [if_neg (by omega)])]
   rw [e3]
  ·have ih := yaj C b n k (by omega) (fun i j hi hj => ha i j (by omega) (by omega)) hb
   have hne : (C n).id ≠ b.id := fun q => by
    have := ha n k (by omega) (by omega) (by rw [q,hb]);omega
   have e1 : del (boxesB C (n + 1)) b.id = ((C n).id,boxB (C n)) :: del (boxesB C n) b.id := by
    unfold del; simp [boxesB,hne]
   have e2 : boxesB (upd C k b) (n + 1) = ((C n).id,boxB (C n)) :: boxesB (upd C k b) n := by
    simp only [boxesB];rw [show upd C k b n = C n from by unfold upd; rw [if_neg (by omega)]]
   rw [e1,e2];exact (List.Perm.swap _ _ _).trans (ih.cons _)
def Sized (q : Bd) : Prop := (0 ≤ q.sx ∧ q.sx ≤ 3276800) ∧ (0 ≤ hf q.kd q.sx q.sy ∧ hf q.kd q.sx q.sy ≤ 3276800) ∧ (0 ≤ hf q.kd q.sx q.sz ∧ hf q.kd q.sx q.sz ≤ 3276800)
theorem y7u (h : -65536000 ≤ a ∧ a ≤ 65536000) (k : 0 ≤ b ∧ b ≤ 3276800) : Go.Proofs.YtbenlgandjjopaaGreatDoor.sub a b = a - b := by
 unfold Go.Proofs.YtbenlgandjjopaaGreatDoor.sub; rw [y0l (n := a) (by omega) (by omega),y0l (n := b) (by omega) (by omega),y0l (by omega) (by omega)]
theorem y95 (h : -65536000 ≤ a ∧ a ≤ 65536000) (k : 0 ≤ b ∧ b ≤ 3276800) : Go.Proofs.YtbenlgandjjopaaGreatDoor.add a b = a + b := by
 unfold Go.Proofs.YtbenlgandjjopaaGreatDoor.add; rw [y0l (n := a) (by omega) (by omega),y0l (n := b) (by omega) (by omega),y0l (by omega) (by omega)]
theorem y9s (h : InA q) (s : Sized q) : rightC (boxB q) = 0 := by
 obtain ⟨h1,h2,h3⟩ := h;obtain ⟨s1,s2,s3⟩ := s
 have e : boxB q = ⟨q.ax - q.sx,q.ay - hf q.kd q.sx q.sy,q.az - hf q.kd q.sx q.sz,q.ax + q.sx,q.ay + hf q.kd q.sx q.sy,q.az + hf q.kd q.sx q.sz⟩ := by
  unfold boxB;rw [y7u h1 s1,y7u h2 s2,y7u h3 s3,y95 h1 s1,y95 h2 s2,y95 h3 s3]
 rw [e];unfold rightC;rw [if_pos,if_pos]
 ·rw [y27]; unfold topX; simp only; omega
 ·rw [y4c]; simp only; omega
theorem yaa (B C : Nat → Bd) (M : List (Int × Bx)) (n : Nat) (h : M.Perm (boxesB B n)) (ha : Alone n B) (hid : ∀ j,j < n → (C j).id = (B j).id) (hr : ∀ j,j < n → rightC (boxB (C j)) = 0) : ∀ k,k ≤ n → (hangM C M k).Perm (boxesB (fun j => if j < k then C j else B j) n)
 | 0,_ => by simpa [hangM] using h
 | k + 1,hk => by
  have ih := yaa B C M n h ha hid hr k (by omega)
  have hE : ∀ j,(if j < k then C j else B j).id = (B j).id ∨ n ≤ j := fun j => by
   by_cases q : j < n
   ·left; split
    ·exact hid j q
    ·rfl
   ·right; omega
  have hA : Alone n (fun j => if j < k then C j else B j) := fun i j hi hj e => by
   have e1 := hE i; have e2 := hE j;rcases e1 with e1 | e1
   ·rcases e2 with e2 | e2
    ·simp only [e1,e2] at e; exact ha i j hi hj e
    ·omega
   ·omega
  have hin : (C k).id ∈ (hangM C M k).map Prod.fst := by
   rw [(ih.map Prod.fst).mem_iff,y91];exact ⟨k,by omega,by rw [if_neg (by omega)]; exact (hid k (by omega)).symm⟩
  have hc : putC (hangM C M k) (C k).id (boxB (C k)) = 0 := by
   unfold putC; rw [if_pos (hr k (by omega)),if_neg (fun q => q.1 hin)]
  show (putM (hangM C M k) (C k).id (boxB (C k))).Perm _;unfold putM put;rw [if_pos hc];refine ((y7k ih (C k).id).cons _).trans ?_;refine (yaj _ (C k) n k (by omega) hA (by show _ = (if k < k then C k else B k).id; rw [if_neg (by omega)]; exact hid k (by omega))).trans ?_;rw [y1w (C := fun j => if j < k + 1 then C j else B j)];intro j hj;unfold upd;by_cases e : j = k
  ·subst e; simp
  ·by_cases q : j < k
   ·simp [e,q,show j < k + 1 by omega]
   ·simp [e,q,show ¬ j < k + 1 by omega]
theorem ykb {M : List (Int × Bx)} (h : M.Perm (boxesB B n)) (ha : Alone n B) (hid : ∀ j,j < n → (C j).id = (B j).id) (hr : ∀ j,j < n → rightC (boxB (C j)) = 0) : (hangM C M n).Perm (boxesB C n) := by
 have := yaa B C M n h ha hid hr n (Nat.le_refl _);rw [y1w (C := C)] at this
 ·exact this
 ·intro j hj; simp [hj]
theorem putM_new {M : List (Int × Bx)} {b : Bd} (h : M.Perm (boxesB B n)) (hn : n < 60) (hid : ∀ j,j < n → (B j).id ≠ b.id) (hr : rightC (boxB b) = 0) : putC M b.id (boxB b) = 0 ∧ (putM M b.id (boxB b)).Perm (boxesB (upd B n b) (n + 1)) := by
 have hl : M.length = n := by rw [h.length_eq,yah]
 have hin : b.id ∉ M.map Prod.fst := by
  rw [(h.map Prod.fst).mem_iff,y91];rintro ⟨j,hj,e⟩;exact hid j hj e
 have hc : putC M b.id (boxB b) = 0 := by unfold putC; rw [if_pos hr,if_neg (by omega)]
 refine ⟨hc,?_⟩;unfold putM put;rw [if_pos hc,y4x hin]
 have e : boxesB (upd B n b) (n + 1) = (b.id,boxB b) :: boxesB B n := by
  simp only [boxesB];rw [show upd B n b n = b from by unfold upd; rw [if_pos rfl],y1w (B := upd B n b) (C := B) (fun j hj => by unfold upd; rw [if_neg (by omega)])]
 rw [e];exact h.cons _
open Go.ChangeShapes Go.WideShapes Go.ChangeAt Go.RowKit Go.Sort Go.Shelf
theorem y9u {M : List (Int × Bx)} {c : Int × Int} (h : c ∈ pairsM M) : ∃ a b,(c.1,a) ∈ M ∧ (c.2,b) ∈ M ∧ c.1 < c.2 ∧ meetX a b = true := by
 have h1 : c ∈ M.flatMap (pairM M) := (List.mergeSort_perm _ _).mem_iff.1 h;obtain ⟨p,hp,hc⟩ := List.mem_flatMap.1 h1;unfold pairM above at hc;obtain ⟨y,hy,rfl⟩ := List.mem_map.1 hc;obtain ⟨hy1,hy2⟩ := List.mem_filter.1 hy;obtain ⟨r,hr,rfl⟩ := List.mem_map.1 hy1;obtain ⟨hr1,hr2⟩ := List.mem_filter.1 hr;exact ⟨p.2,r.2,hp,hr1,by simpa using hy2,by rw [yak]; exact hr2⟩
theorem yeg {M : List (Int × Bx)} {p : Int × Bx} {c : Int × Int} (h : c ∈ pairM M p) : c.1 = p.1 := by
 unfold pairM above at h;obtain ⟨y,_,rfl⟩ := List.mem_map.1 h;rfl
theorem yfi {M : List (Int × Bx)} (h : (M.map Prod.fst).Nodup) (p : Int × Bx) : (pairM M p).Nodup := by
 unfold pairM above;refine List.Pairwise.map (R := fun a b => a ≠ b) (S := fun a b => a ≠ b) _ (fun a b hab e => hab (by injection e)) ?_;exact List.Nodup.sublist List.filter_sublist (List.Nodup.sublist ((List.filter_sublist).map _) h)
theorem yat (M : List (Int × Bx)) (h : (M.map Prod.fst).Nodup) : ∀ D : List (Int × Bx),(D.map Prod.fst).Nodup → (D.flatMap (pairM M)).Nodup
 | [],_ => by simp
 | p :: D,hd => by
  simp only [List.map_cons,List.nodup_cons] at hd;rw [List.flatMap_cons,List.nodup_append];refine ⟨yfi h p,yat M h D hd.2,?_⟩;intro a ha b hb e;subst e;obtain ⟨r,hr,hc⟩ := List.mem_flatMap.1 hb;exact hd.1 (by rw [← yeg ha,yeg hc]; exact List.mem_map_of_mem hr)
theorem y3z {M : List (Int × Bx)} (h : (M.map Prod.fst).Nodup) : (pairsM M).Pairwise (fun x y => x.1 < y.1 ∨ (x.1 = y.1 ∧ x.2 < y.2)) := by
 have tr : ∀ a b c : Int × Int,(!decide (cmp2 b a < 0)) = true → (!decide (cmp2 c b < 0)) = true → (!decide (cmp2 c a < 0)) = true := by
  intro a b c h1 h2;rw [y35,lt2] at *;simp at *; omega
 have tot : ∀ a b : Int × Int,((!decide (cmp2 b a < 0)) || (!decide (cmp2 a b < 0))) = true := by
  intro a b;rw [y35,y35,lt2,lt2];simp; omega
 have s1 : (pairsM M).Pairwise _ := List.pairwise_mergeSort (le := fun x y : Int × Int => !decide (cmp2 y x < 0)) tr tot (M.flatMap (pairM M));have s2 : (pairsM M).Nodup := (List.mergeSort_perm _ _).symm.nodup (yat M h M h);refine (List.Pairwise.and s1 s2).imp ?_;intro a b hab;obtain ⟨h1,h2⟩ := hab;rw [y35,lt2] at h1;simp at h1;have : a ≠ b := h2;have h3 : ¬ (a.1 = b.1 ∧ a.2 = b.2) := fun e => this (Prod.ext e.1 e.2);omega
theorem ykp {M : List (Int × Bx)} {c : Int × Int} {a b : Bx} (h1 : (c.1,a) ∈ M) (h2 : (c.2,b) ∈ M) (hl : c.1 < c.2) (hm : meetX a b = true) : c ∈ pairsM M := by
 refine (List.mergeSort_perm _ _).mem_iff.2 ?_;refine List.mem_flatMap.2 ⟨(c.1,a),h1,?_⟩;unfold pairM above;refine List.mem_map.2 ⟨c.2,List.mem_filter.2 ⟨List.mem_map.2 ⟨(c.2,b),List.mem_filter.2 ⟨h2,by rw [yak]; exact hm⟩,rfl⟩,by simpa using hl⟩,rfl⟩
theorem y6r {M : List (Int × Bx)} {c : Int × Int} : c ∈ pairsM M ↔ ∃ a b,(c.1,a) ∈ M ∧ (c.2,b) ∈ M ∧ c.1 < c.2 ∧ meetX a b = true :=
 ⟨y9u,fun ⟨_,_,h1,h2,h3,h4⟩ => ykp h1 h2 h3 h4⟩
theorem yeb {P Q : List (Int × Int)} (hP : P.Pairwise (fun x y => x.1 < y.1 ∨ (x.1 = y.1 ∧ x.2 < y.2))) (hQ : Q.Pairwise (fun x y => x.1 < y.1 ∨ (x.1 = y.1 ∧ x.2 < y.2))) (h : ∀ c,c ∈ P ↔ c ∈ Q) : P = Q := by
 have nd : ∀ {R : List (Int × Int)},R.Pairwise (fun x y => x.1 < y.1 ∨ (x.1 = y.1 ∧ x.2 < y.2)) → R.Nodup := fun hR => hR.imp (fun hab e => by subst e; omega);have p : P.Perm Q := (List.perm_ext_iff_of_nodup (nd hP) (nd hQ)).2 h;exact p.eq_of_pairwise (fun a b _ _ h1 h2 => by omega) hP hQ
def Num (n : Nat) (B : Nat → Bd) : Prop := ∀ j,j < n → (B j).id = (j : Int) + 1
theorem Num.congr (h : Num n B) (e : ∀ j,(C j).id = (B j).id) : Num n C := fun j hj => by rw [e]; exact h j hj
section
variable {n N m r : Nat} {T T' : Nat → Tc}
end
theorem yie {p' q' : Bd} (h : p'.id = p.id ∧ p'.kd = p.kd ∧ p'.sx = p.sx ∧ p'.sy = p.sy ∧ p'.sz = p.sz ∧ p'.ax = p.ax ∧ p'.ay = p.ay ∧ p'.az = p.az) (k : q'.id = q.id ∧ q'.kd = q.kd ∧ q'.sx = q.sx ∧ q'.sy = q.sy ∧ q'.sz = q.sz ∧ q'.ax = q.ax ∧ q'.ay = q.ay ∧ q'.az = q.az) : tchX p' q' = tchX p q := by
 obtain ⟨a1,a2,a3,a4,a5,a6,a7,a8⟩ := h;obtain ⟨b1,b2,b3,b4,b5,b6,b7,b8⟩ := k;unfold tchX;rw [a1,a2,a3,a4,a5,a6,a7,a8,b1,b2,b3,b4,b5,b6,b7,b8]
theorem yho (c : Wc) (B : Nat → Bd) (n : Nat) (id : Int) : getX (mapTo (driveB c) B n) n id = getX B n id ∨ getX (mapTo (driveB c) B n) n id = driveB c (getX B n id) := by
 unfold getX;rw [y3v (C := B) (fun i => y2m (y47 c) B n i)]
 cases findX B id n with
 | none => exact Or.inl rfl
 | some i =>
  show mapTo (driveB c) B n i = B i ∨ mapTo (driveB c) B n i = driveB c (B i);unfold mapTo;split
  ·exact Or.inr rfl
  ·exact Or.inl rfl
theorem yhi (c : Wc) (q : Bd) : (driveB c q).id = q.id ∧ (driveB c q).kd = q.kd ∧ (driveB c q).sx = q.sx ∧ (driveB c q).sy = q.sy ∧ (driveB c q).sz = q.sz ∧ (driveB c q).ax = q.ax ∧ (driveB c q).ay = q.ay ∧ (driveB c q).az = q.az := by
 unfold driveB; split <;> exact ⟨rfl,rfl,rfl,rfl,rfl,rfl,rfl,rfl⟩
theorem ycz (c : Wc) (B : Nat → Bd) (n : Nat) (M : List (Int × Bx)) : touchesOf c B n M = tchL B n (pairsM M) := by
 unfold touchesOf tchL;congr 1;funext x
 have g : ∀ id,(fun p => p.id = (getX B n id).id ∧ p.kd = (getX B n id).kd ∧ p.sx = (getX B n id).sx ∧ p.sy = (getX B n id).sy ∧ p.sz = (getX B n id).sz ∧ p.ax = (getX B n id).ax ∧ p.ay = (getX B n id).ay ∧ p.az = (getX B n id).az) (getX (mapTo (driveB c) B n) n id) := fun id => by
  rcases yho c B n id with e | e
  ·rw [e]; exact ⟨rfl,rfl,rfl,rfl,rfl,rfl,rfl,rfl⟩
  ·rw [e]; exact yhi c _
 exact yie (g x.1) (g x.2)
def rowP (B : Nat → Bd) (i : Nat) : Nat → List (Int × Int)
 | 0 => []
 | j + 1 => rowP B i j ++ (if meetX (boxB (B i)) (boxB (B (i + 1 + j))) = true then [((B i).id,(B (i + 1 + j)).id)] else [])
def allP (B : Nat → Bd) (n : Nat) : Nat → List (Int × Int)
 | 0 => []
 | i + 1 => allP B n i ++ rowP B i (n - (i + 1))
theorem yc7 (B : Nat → Bd) (i : Nat) : ∀ j,(rowP B i j).length ≤ j
 | 0 => by simp [rowP]
 | j + 1 => by
  have := yc7 B i j;rw [rowP,List.length_append];split <;> simp <;> omega
theorem y7r (B : Nat → Bd) (n : Nat) : ∀ i,(allP B n i).length ≤ i * n
 | 0 => by simp [allP]
 | i + 1 => by
  have h1 := y7r B n i;have h2 := yc7 B i (n - (i + 1));rw [allP,List.length_append,Nat.succ_mul];omega
theorem ygp {B : Nat → Bd} {i : Nat} {c : Int × Int} : ∀ {j : Nat},c ∈ rowP B i j ↔ ∃ k,k < j ∧ meetX (boxB (B i)) (boxB (B (i + 1 + k))) = true ∧ c = ((B i).id,(B (i + 1 + k)).id)
 | 0 => by simp [rowP]
 | j + 1 => by
  rw [rowP,List.mem_append,ygp];constructor
  ·rintro (⟨k,hk,h1,h2⟩ | h)
   ·exact ⟨k,by omega,h1,h2⟩
   ·split at h
    ·rename_i hm
     simp only [zrc] at h;exact ⟨j,by omega,hm,h⟩
    ·simp at h
  ·rintro ⟨k,hk,h1,h2⟩
   by_cases e : k = j
   ·subst e
    right;rw [if_pos h1,h2]; simp
   ·exact Or.inl ⟨k,by omega,h1,h2⟩
theorem ybt {B : Nat → Bd} {n : Nat} {c : Int × Int} : ∀ {i : Nat},i ≤ n → (c ∈ allP B n i ↔ ∃ k l,k < i ∧ k < l ∧ l < n ∧ meetX (boxB (B k)) (boxB (B l)) = true ∧ c = ((B k).id,(B l).id))
 | 0,_ => by simp [allP]
 | i + 1,hi => by
  rw [allP,List.mem_append,ybt (by omega),ygp];constructor
  ·rintro (⟨k,l,h1,h2,h3,h4,h5⟩ | ⟨k,h1,h2,h3⟩)
   ·exact ⟨k,l,by omega,h2,h3,h4,h5⟩
   ·exact ⟨i,i + 1 + k,by omega,by omega,by omega,h2,h3⟩
  ·rintro ⟨k,l,h1,h2,h3,h4,h5⟩
   by_cases e : k = i
   ·subst e
    right;exact ⟨l - (k + 1),by omega,by rw [show k + 1 + (l - (k + 1)) = l by omega]; exact h4,by rw [show k + 1 + (l - (k + 1)) = l by omega]; exact h5⟩
   ·exact Or.inl ⟨k,l,by omega,h2,h3,h4,h5⟩
abbrev Rise2 (P : List (Int × Int)) : Prop := P.Pairwise (fun x y => x.1 < y.1 ∨ (x.1 = y.1 ∧ x.2 < y.2))
theorem ye5 {B : Nat → Bd} {n i : Nat} (h : Rises B n) : ∀ {j : Nat},i + 1 + j ≤ n → Rise2 (rowP B i j)
 | 0,_ => List.Pairwise.nil
 | j + 1,hj => by
  unfold Rise2;rw [rowP,List.pairwise_append];refine ⟨ye5 h (by omega),by split <;> simp,fun x hx y hy => ?_⟩;obtain ⟨k,hk,_,rfl⟩ := ygp.1 hx;split at hy
  ·simp only [zrc] at hy
   subst hy;exact Or.inr ⟨rfl,h _ _ (by omega) (by omega)⟩
  ·simp at hy
theorem ydh {B : Nat → Bd} {n : Nat} (h : Rises B n) : ∀ {i : Nat},i ≤ n → Rise2 (allP B n i)
 | 0,_ => List.Pairwise.nil
 | i + 1,hi => by
  unfold Rise2;rw [allP,List.pairwise_append];refine ⟨ydh h (by omega),ye5 h (by omega),fun x hx y hy => ?_⟩;obtain ⟨k,l,h1,h2,h3,_,rfl⟩ := (ybt (by omega)).1 hx;obtain ⟨k',hk',_,rfl⟩ := ygp.1 hy;exact Or.inl (h _ _ (by omega) (by omega))
theorem y8c {B : Nat → Bd} {n : Nat} (h : Rises B n) : ∀ k,k ≤ n → ((boxesB B k).map Prod.fst).Nodup
 | 0,_ => by simp [boxesB]
 | k + 1,hk => by
  rw [boxesB,List.map_cons,List.nodup_cons];refine ⟨fun hm => ?_,y8c h k (by omega)⟩;obtain ⟨j,hj,e⟩ := y91.1 hm;have := h j k hj (by omega);simp only at e;omega
theorem yek {M : List (Int × Bx)} (h : Rises B n) (hM : M.Perm (boxesB B n)) : pairsM M = allP B n n := by
 refine yeb (y3z ((hM.map Prod.fst).nodup_iff.2 (y8c h n (Nat.le_refl n)))) (ydh h (Nat.le_refl n)) (fun c => ?_);rw [y6r,ybt (Nat.le_refl n)];constructor
 ·rintro ⟨a,b,h1,h2,h3,h4⟩
  obtain ⟨k,hk,e1⟩ := y6m.1 (hM.mem_iff.1 h1);obtain ⟨l,hl,e2⟩ := y6m.1 (hM.mem_iff.1 h2);injection e1 with e1 e1'
  injection e2 with e2 e2';refine ⟨k,l,hk,?_,hl,by rw [← e1',← e2']; exact h4,by rw [← e1,← e2]⟩;rcases Nat.lt_trichotomy k l with q | q | q
  ·exact q
  ·subst q; omega
  ·have := h l k q hk; omega
 ·rintro ⟨k,l,h1,h2,h3,h4,rfl⟩
  exact ⟨boxB (B k),boxB (B l),hM.mem_iff.2 (y6m.2 ⟨k,h1,rfl⟩),hM.mem_iff.2 (y6m.2 ⟨l,h3,rfl⟩),h k l h2 h3,h4⟩
theorem ygv (h : Rises B n) (hi : i < n) : getX B n (B i).id = B i := by
 unfold getX
 cases hf : findX B (B i).id n with
 | none => exact absurd rfl (y4o hf i hi)
 | some r =>
  obtain ⟨hr,e⟩ := y0c hf;have : r = i := h.alone r i hr hi e;subst this; rfl
theorem ykk {j : Nat} (h : Rises B n) (hi : i < n) (hj : i + 1 + j < n) (P : List (Int × Int)) : tchL B n (P ++ rowP B i (j + 1)) = tchL B n (P ++ rowP B i j) ++ (if meetX (boxB (B i)) (boxB (B (i + 1 + j))) = true then tchX (B i) (B (i + 1 + j)) else []) := by
 rw [rowP];split
 ·rw [← List.append_assoc,yde,ygv h hi,ygv h hj]
 ·simp
theorem SlTc.apart {v : Value} {ts : List Tc} (h : SlTc w v ts) {k : Nat} (hk : BodyAt w k q) : k ∉ ownM v := by
 intro hv;obtain ⟨hl,⟨rfl,hn⟩ | ⟨g,cp,cur,rfl,hb,hh,h1,h2,h3,h4⟩⟩ := h
 ·simp [ownM,Value.ownBlock] at hv
 ·simp only [ownM,Value.ownBlock,Option.toList_some,zrc] at hv
  subst hv;have e := hh.symm.trans hk;injection e with e
  injection e with e1 e2 e3;exact absurd e2 (by decide)
theorem yab (p q : Bd) (v : Bool) (w : World) (h : meetX (boxB p) (boxB q) = v) : Calls Tryz.prog 15 #[.agg #[I (sub p.ax p.sx),I (sub p.ay (hf p.kd p.sx p.sy)),I (sub p.az (hf p.kd p.sx p.sz)),I (add p.ax p.sx),I (add p.ay (hf p.kd p.sx p.sy)),I (add p.az (hf p.kd p.sx p.sz))],.agg #[I (sub q.ax q.sx),I (sub q.ay (hf q.kd q.sx q.sy)),I (sub q.az (hf q.kd q.sx q.sz)),I (add q.ax q.sx),I (add q.ay (hf q.kd q.sx q.sy)),I (add q.az (hf q.kd q.sx q.sz))]] w fun e w' => e = .returned (.bool v) ∧ Kept w w' := by
 refine (y2i _ _ _ _ _ _ _ _ _ _ _ _ w).mono ?_;rintro e w' ⟨rfl,k⟩;exact ⟨y0i h,k⟩
def Two8 (ka kc : Nat) (p q : Bd) (w' : World) : Prop := w'.cell? ⟨ka,2,none⟩ = some (J U p.kd) ∧ w'.cell? ⟨ka,3,none⟩ = some (J U p.sx) ∧ w'.cell? ⟨ka,4,none⟩ = some (J U p.sy) ∧ w'.cell? ⟨ka,5,none⟩ = some (J U p.sz) ∧ w'.cell? ⟨ka,6,none⟩ = some (J U p.ax) ∧ w'.cell? ⟨ka,7,none⟩ = some (J U p.ay) ∧ w'.cell? ⟨ka,8,none⟩ = some (J U p.az) ∧ w'.cell? ⟨kc,2,none⟩ = some (J U q.kd) ∧ w'.cell? ⟨kc,3,none⟩ = some (J U q.sx) ∧ w'.cell? ⟨kc,4,none⟩ = some (J U q.sy) ∧ w'.cell? ⟨kc,5,none⟩ = some (J U q.sz) ∧ w'.cell? ⟨kc,6,none⟩ = some (J U q.ax) ∧ w'.cell? ⟨kc,7,none⟩ = some (J U q.ay) ∧ w'.cell? ⟨kc,8,none⟩ = some (J U q.az)
theorem Two8.of {w' : World} {ka kc : Nat} (h : BodyAt w ka p) (h' : BodyAt w kc q) (o : Kept w w') : Two8 ka kc p q w' :=
 ⟨y00 o (h.off 2),y00 o (h.off 3),y00 o (h.off 4),y00 o (h.off 5),y00 o (h.off 6),y00 o (h.off 7),y00 o (h.off 8),y00 o (h'.off 2),y00 o (h'.off 3),y00 o (h'.off 4),y00 o (h'.off 5),y00 o (h'.off 6),y00 o (h'.off 7),y00 o (h'.off 8)⟩
theorem y3h {E : List Nat} (w0 : World) (x g : Nat) (c : Wc) (a : Option Addr) (n cap : Nat) (la st : Int) (B : Nat → Bd) (w : World) (hn : n ≤ 60) (h : RfW E w0 x g c a n cap la st B w) (hr : Rises B n) (hs : ∀ j,j < n → rightB (B j).kd (B j).sx (B j).sy (B j).sz = true) :
  Calls Tryz.prog 21 #[.pointer (some (Y x 0))] w fun e w' => ∃ v,e = .returned v ∧ TW w v (tchL B n (allP B n n)) w' := by
 have HW : Hid (RfW E w0 x g c a n cap la st B w ∧ n ≤ 60 ∧ Rises B n) := ⟨h,hn,hr⟩;have HSH : Hid (∀ j,j < n → rightB (B j).kd (B j).sx (B j).sy (B j).sz = true) := hs;clear h hn hr hs;have s7 := HW.out.1.wa.off 7;simp only [zR] at s7;go_enter Tryz.func21,Tryz.ntmps21
 go_wp2_with fail
 clear s7;go_loopg [3,16] n (fun k sv idx wr => ∃ (v : Value) (i : Nat),v = sv ∧ idx = I (i : Int) ∧ Hid (i ≤ n ∧ k = n - i) ∧ Hid (TW w v (tchL B n (allP B n i)) wr))
 case atStart => exact ⟨_,0,rfl,rfl,⟨by omega,rfl⟩,SlTc.nil _,Only.refl _ _,by simp [ownM,Value.ownBlock]⟩
 case round =>
  obtain ⟨v,i,rfl,rfl,H2,HT⟩ := hrel;have hn := HW.out.2.1;by_cases hi : i < n
  ·have hil : (i : Int) < (n : Int) := by omega
   obtain ⟨ha,hO⟩ : a = some (Y g 0) ∧ OwnB w g n B := by
    rcases HW.out.1.own with q | q
    ·omega
    ·exact q
   subst ha;have HO : Hid (OwnB w g n B) := hO;obtain ⟨p,hp⟩ : ∃ p,B i = p := ⟨_,rfl⟩;have hc := (hO.only HT.out.only (by simp)).range hi hp;have HP : Hid (B i = p) := hp;clear hO hp;go_upto_region 5 with (first | (refine wpList_load_mid rfl 45 (.tmp 19) rfl g (i * 17) rfl [I p.id,I p.ow,I p.kd,I p.sx,I p.sy,I p.sz,I p.ax,I p.ay,I p.az,I p.vx,I p.vy,I p.vz,I p.px,I p.py,I p.pz,I p.ms,I p.tm] _ (range17 hc) Tryz.underlying45 rfl bodySize ?_))
   clear hc;have H3 : Hid (TW w v (tchL B n (allP B n i)) (wr.alloc (.cells (bdA p) 45)) ∧ BodyAt (wr.alloc (.cells (bdA p) 45)) wr.heap.size p) := ⟨⟨HT.out.sl.only ((Only.refl [] wr).alloc _) (by simp),HT.out.only.trans ((Only.refl [] wr).alloc _),HT.out.new⟩,(MapKept.heap_alloc wr _).1⟩;clear HT;revert H3;generalize wr.heap.size = ka;generalize World.alloc wr _ = w3;intro H3;have s7 := (HW.out.1.wa.only H3.out.1.only (by simp)).off 7;simp only [zR] at s7;have hnc0 := HW.out.1.nc;have hnc : (n : Int) ≤ (cap : Int) := by omega
   have h01 : (0 : Int) ≤ (i : Int) + 1 := by omega
   have hi1 : (i : Int) + 1 ≤ (n : Int) := by omega
   have hWR : IntKind.i64.wrap ((i : Int) + 1) = (i : Int) + 1 := y3o (by omega) (by omega);go_cut [27,28,29] from 21 to 26 (fun s27 s28 s29 wc => wc = w3 ∧ ∃ ad cp,s27 = .slice (some ad) (n - (i + 1)) cp ∧ s28 = I ((n - (i + 1) : Nat) : Int) ∧ s29 = I 0 ∧ (i + 1 < n → ad = (Y g ((i + 1) * 17))))
   case first =>
    by_cases hcap : cap = i + 1
    ·go_wp2_with fail
     go_meet
     case rel => exact ⟨rfl,(Y g 0),_,rfl,rfl,rfl,fun h => by omega⟩
    ·go_wp2_with fail
     go_meet
     case rel => exact ⟨rfl,(Y g ((i + 1) * 17)),_,rfl,rfl,rfl,fun _ => rfl⟩
   case rest =>
   obtain ⟨rfl,ad,cp,rfl,rfl,rfl,had2⟩ := hcut;have HBT : Hid (∀ wr',Only [] w wr' → BodiesAt wr' (some ad) (n - (i + 1)) (fun j => B (i + 1 + j))) := fun wr' o => ((OwnS.bodies (Or.inr ⟨rfl,HO.out⟩)).only o).tail hi had2;clear had2 s7 h01 hi1 hWR;go_wp2_with fail
   obtain ⟨m,hm⟩ : ∃ m,m = n - (i + 1) := ⟨_,rfl⟩;have HM : Hid (m = n - (i + 1) ∧ i < n) := ⟨hm,hi⟩;rw [← hm] at HBT ⊢;clear hm;go_loopg [3,29] m (fun k sv idx wr => ∃ (v : Value) (j : Nat),v = sv ∧ idx = I (j : Int) ∧ Hid (j ≤ m ∧ k = m - j) ∧ Hid (TW w v (tchL B n (allP B n i ++ rowP B i j)) wr) ∧ Hid (BodyAt wr ka p))
   case atStart => exact ⟨_,0,rfl,rfl,⟨by omega,rfl⟩,by rw [rowP,List.append_nil]; exact H3.out.1,H3.out.2⟩
   case round =>
    clear H3;obtain ⟨v,j,rfl,rfl,H4,HT,HKA⟩ := hrel;have hm60 : m ≤ 60 := by have := HM.out.1; omega
    by_cases hj : j < m
    ·have hjl : (j : Int) < (m : Int) := by omega
     obtain ⟨g2,o2,e2,hc⟩ := HBT.out _ HT.out.only j hj;injection e2 with e2
     subst e2;obtain ⟨q,hq⟩ : ∃ q,B (i + 1 + j) = q := ⟨_,rfl⟩;simp only [hq] at hc;have HIJ : Hid (i + 1 + j < n) := by have := HM.out.1; show i + 1 + j < n; omega
     have HQ : Hid (B (i + 1 + j) = q) := hq
     have HTK : Hid (tchL B n (allP B n i ++ rowP B i (j + 1)) = tchL B n (allP B n i ++ rowP B i j) ++ (if meetX (boxB p) (boxB q) = true then tchX p q else [])) := by
      show _ = _;rw [ykk HW.out.2.2 hi HIJ.out,HP.out,hq]
     have HRP : Hid (rightB p.kd p.sx p.sy p.sz = true ∧ rightB q.kd q.sx q.sy q.sz = true) := ⟨by rw [← HP.out]; exact HSH.out i hi,by rw [← hq]; exact HSH.out _ HIJ.out⟩
     have HLEN : Hid ((tchL B n (allP B n i ++ rowP B i j)).length ≤ 3600) := by
      refine Nat.le_trans (y4w B n _) ?_;rw [List.length_append];have h1 := y7r B n i;have h2 := yc7 B i j;have h3 : i * n ≤ 59 * 60 := Nat.mul_le_mul (by omega) (by omega);omega
     clear hq;go_upto_region 8 with (first | (refine wpList_load_mid rfl 45 (.tmp 31) rfl g2 (o2 + j * 17) rfl [I q.id,I q.ow,I q.kd,I q.sx,I q.sy,I q.sz,I q.ax,I q.ay,I q.az,I q.vx,I q.vy,I q.vz,I q.px,I q.py,I q.pz,I q.ms,I q.tm] _ (range17 hc) Tryz.underlying45 rfl bodySize ?_))
     clear hc;have H5 : Hid (Only [] wr (wr.alloc (.cells (bdA q) 45)) ∧ BodyAt (wr.alloc (.cells (bdA q) 45)) ka p ∧ BodyAt (wr.alloc (.cells (bdA q) 45)) wr.heap.size q) := ⟨(Only.refl [] wr).alloc _,HKA.out.only ((Only.refl [] wr).alloc _),(MapKept.heap_alloc wr _).1⟩;revert H5;generalize wr.heap.size = kc;generalize World.alloc wr _ = w5;intro H5;have H8 : Hid (∀ w',Kept w5 w' → Kept w5 w' ∧ Two8 ka kc p q w') := fun w' o => ⟨o,Two8.of H5.out.2.1 H5.out.2.2 o⟩
     cases hmt : meetX (boxB p) (boxB q) with
     | false =>
      have HE : Hid (tchL B n (allP B n i ++ rowP B i (j + 1)) = tchL B n (allP B n i ++ rowP B i j)) := by show _ = _; rw [HTK.out,hmt]; simp
      have HMT : Hid (∀ w',Calls Tryz.prog 15 #[.agg #[I (sub p.ax p.sx),I (sub p.ay (hf p.kd p.sx p.sy)),I (sub p.az (hf p.kd p.sx p.sz)),I (add p.ax p.sx),I (add p.ay (hf p.kd p.sx p.sy)),I (add p.az (hf p.kd p.sx p.sz))],.agg #[I (sub q.ax q.sx),I (sub q.ay (hf q.kd q.sx q.sy)),I (sub q.az (hf q.kd q.sx q.sz)),I (add q.ax q.sx),I (add q.ay (hf q.kd q.sx q.sy)),I (add q.az (hf q.kd q.sx q.sz))]] w' fun e w'' => e = .returned (.bool false) ∧ Kept w' w'') := fun w' => yab p q false w' hmt;clear hmt HTK;refine wp_region_held_drew (S := (fun w' => Kept w5 w' ∧ Zc w' ka 2 p.kd ∧ Zc w' ka 3 p.sx ∧ Zc w' ka 4 p.sy ∧ Zc w' ka 5 p.sz ∧ Zc w' ka 6 p.ax ∧ Zc w' ka 7 p.ay ∧ Zc w' ka 8 p.az ∧ Zc w' kc 2 q.kd ∧ Zc w' kc 3 q.sx ∧ Zc w' kc 4 q.sy ∧ Zc w' kc 5 q.sz ∧ Zc w' kc 6 q.ax ∧ Zc w' kc 7 q.ay ∧ Zc w' kc 8 q.az)) (by kernel_rfl) ?_ (fun hJ1 => ?_)
      ·exact H8.out _ kd
      refine tkU 0 (h:=tkU 1 (h:=tkU 2 (h:=tkV 3 ?_)));try simp only [zP]
      refine tkU 5 (h:=tkU 6 (h:=tkU 7 (h:=tkV 8 ?_)));try simp only [zP]
      refine rdW 4 rfl fun K hK => ?_;simp only [zQ];go_simp
      (go_at_call 16; refine (y0p _ _ _ _ _ _ _ _).mono ?_; rintro e w6 ⟨rfl,k6⟩)
      try go_wp2_with fail
      refine hK.out _ _ ?_ fun hJ2 => ?_
      ·exact H8.out _ ((Kept.refl w5).drew.trans k6)
      clear hK K hJ1;try simp only [zP]
      refine rdW 9 rfl fun K hK => ?_;simp only [zQ];go_simp
      (go_at_call 16; refine (y0p _ _ _ _ _ _ _ _).mono ?_; rintro e w7 ⟨rfl,k7⟩)
      try go_wp2_with fail
      refine hK.out _ _ ?_ fun hJ3 => ?_
      ·exact H8.out _ (((Kept.refl w5).drew.trans k6).trans k7)
      clear hK K hJ2;try simp only [zP]
      refine rdW 10 rfl fun K hK => ?_;simp only [zQ];go_simp
      (go_at_call 15; refine (HMT.out _).mono ?_; rintro e w8 ⟨rfl,k8⟩)
      try go_wp2_with fail
      refine hK.out _ _ ?_ fun hJ4 => ?_
      ·exact H8.out _ ((((Kept.refl w5).drew.trans k6).trans k7).trans k8)
      clear hK K hJ3;try simp only [zP]
      refine tkV 11 ?_;try simp only [zP]
      refine wpAnyH_done (by kernel_rfl) ?_ _;have HK9 : Hid (Kept w5 w8) := (((Kept.refl w5).drew.trans k6).trans k7).trans k8;clear hJ4 k6 k7 k8;go_wp2_with fail
      go_roundg (m - (j + 1))
      case measure => have := H4.out.2; omega
      case rel => exact ⟨v,j + 1,rfl,by go_num,⟨by omega,rfl⟩,by rw [HE.out]; exact ⟨HT.out.sl.only (H5.out.1.trans (Only.of_kept HK9.out)) (by simp),HT.out.only.trans (H5.out.1.trans (Only.of_kept HK9.out)),HT.out.new⟩,H5.out.2.1.only (Only.of_kept HK9.out)⟩
     | true =>
      have HE0 : Hid (tchL B n (allP B n i ++ rowP B i (j + 1)) = tchL B n (allP B n i ++ rowP B i j) ++ tchX p q) := by show _ = _; rw [HTK.out,hmt]; simp
      have HMT : Hid (∀ w',Calls Tryz.prog 15 #[.agg #[I (sub p.ax p.sx),I (sub p.ay (hf p.kd p.sx p.sy)),I (sub p.az (hf p.kd p.sx p.sz)),I (add p.ax p.sx),I (add p.ay (hf p.kd p.sx p.sy)),I (add p.az (hf p.kd p.sx p.sz))],.agg #[I (sub q.ax q.sx),I (sub q.ay (hf q.kd q.sx q.sy)),I (sub q.az (hf q.kd q.sx q.sz)),I (add q.ax q.sx),I (add q.ay (hf q.kd q.sx q.sy)),I (add q.az (hf q.kd q.sx q.sz))]] w' fun e w'' => e = .returned (.bool true) ∧ Kept w' w'') := fun w' => yab p q true w' hmt;clear hmt HTK;refine wp_region_held_drew (S := (fun w' => Kept w5 w' ∧ Zc w' ka 2 p.kd ∧ Zc w' ka 3 p.sx ∧ Zc w' ka 4 p.sy ∧ Zc w' ka 5 p.sz ∧ Zc w' ka 6 p.ax ∧ Zc w' ka 7 p.ay ∧ Zc w' ka 8 p.az ∧ Zc w' kc 2 q.kd ∧ Zc w' kc 3 q.sx ∧ Zc w' kc 4 q.sy ∧ Zc w' kc 5 q.sz ∧ Zc w' kc 6 q.ax ∧ Zc w' kc 7 q.ay ∧ Zc w' kc 8 q.az)) (by kernel_rfl) ?_ (fun hJ1 => ?_)
      ·exact H8.out _ kd
      refine tkU 0 (h:=tkU 1 (h:=tkU 2 (h:=tkV 3 ?_)));try simp only [zP]
      refine tkU 5 (h:=tkU 6 (h:=tkU 7 (h:=tkV 8 ?_)));try simp only [zP]
      refine rdW 4 rfl fun K hK => ?_;simp only [zQ];go_simp
      (go_at_call 16; refine (y0p _ _ _ _ _ _ _ _).mono ?_; rintro e w6 ⟨rfl,k6⟩)
      try go_wp2_with fail
      refine hK.out _ _ ?_ fun hJ2 => ?_
      ·exact H8.out _ ((Kept.refl w5).drew.trans k6)
      clear hK K hJ1;try simp only [zP]
      refine rdW 9 rfl fun K hK => ?_;simp only [zQ];go_simp
      (go_at_call 16; refine (y0p _ _ _ _ _ _ _ _).mono ?_; rintro e w7 ⟨rfl,k7⟩)
      try go_wp2_with fail
      refine hK.out _ _ ?_ fun hJ3 => ?_
      ·exact H8.out _ (((Kept.refl w5).drew.trans k6).trans k7)
      clear hK K hJ2;try simp only [zP]
      refine rdW 10 rfl fun K hK => ?_;simp only [zQ];go_simp
      (go_at_call 15; refine (HMT.out _).mono ?_; rintro e w8 ⟨rfl,k8⟩)
      try go_wp2_with fail
      refine hK.out _ _ ?_ fun hJ4 => ?_
      ·exact H8.out _ ((((Kept.refl w5).drew.trans k6).trans k7).trans k8)
      clear hK K hJ3;try simp only [zP]
      refine tkV 11 ?_;try simp only [zP]
      refine wpAnyH_done (by kernel_rfl) ?_ _;have HK9 : Hid (Kept w5 w8) := (((Kept.refl w5).drew.trans k6).trans k7).trans k8;clear hJ4 k6 k7 k8;have HBA : Hid (BodyAt w8 ka p ∧ BodyAt w8 kc q) := ⟨H5.out.2.1.only (Only.of_kept HK9.out),H5.out.2.2.only (Only.of_kept HK9.out)⟩;have HA := HBA.out.1; have HC := HBA.out.2;have a2 := HA.off 2; have b2 := HC.off 2;have a3 := HA.off 3; have b3 := HC.off 3;have a4 := HA.off 4; have b4 := HC.off 4;have a5 := HA.off 5; have b5 := HC.off 5;have a6 := HA.off 6; have b6 := HC.off 6;have a7 := HA.off 7; have b7 := HC.off 7;have a8 := HA.off 8; have b8 := HC.off 8;simp only [zR] at a2 b2 a3 b3 a4 b4 a5 b5 a6 b6 a7 b7 a8 b8;clear HA HC;go_wp2_with fail
      refine (y7e p.kd p.sx p.sy p.sz p.ax p.ay p.az q.kd q.sx q.sy q.sz q.ax q.ay q.az _ HRP.out.1 HRP.out.2).mono ?_;rintro e w9 ⟨rfl,k9⟩;clear a2 b2 a3 b3 a4 b4 a5 b5 a6 b6 a7 b7 a8 b8;have HTX : Hid (tchX p q = if (touchT p.kd p.sx p.sy p.sz p.ax p.ay p.az q.kd q.sx q.sy q.sz q.ax q.ay q.az).ok = true then [⟨p.id,q.id,⟨(touchT p.kd p.sx p.sy p.sz p.ax p.ay p.az q.kd q.sx q.sy q.sz q.ax q.ay q.az).x,(touchT p.kd p.sx p.sy p.sz p.ax p.ay p.az q.kd q.sx q.sy q.sz q.ax q.ay q.az).y,(touchT p.kd p.sx p.sy p.sz p.ax p.ay p.az q.kd q.sx q.sy q.sz q.ax q.ay q.az).z⟩,(touchT p.kd p.sx p.sy p.sz p.ax p.ay p.az q.kd q.sx q.sy q.sz q.ax q.ay q.az).d⟩] else []) := rfl;generalize touchT p.kd p.sx p.sy p.sz p.ax p.ay p.az q.kd q.sx q.sy q.sz q.ax q.ay q.az = tt at HTX ⊢;go_upto_region 10 with fail
      have H9 : Hid (Only [] wr (w9.alloc (.cells #[I tt.x,I tt.y,I tt.z] 23)) ∧ BodyAt (w9.alloc (.cells #[I tt.x,I tt.y,I tt.z] 23)) ka p ∧ BodyAt (w9.alloc (.cells #[I tt.x,I tt.y,I tt.z] 23)) kc q ∧ VecAt (w9.alloc (.cells #[I tt.x,I tt.y,I tt.z] 23)) w9.heap.size tt.x tt.y tt.z) :=
       ⟨((H5.out.1.trans (Only.of_kept HK9.out)).trans (Only.of_kept k9)).alloc _,HBA.out.1.only ((Only.of_kept k9).alloc _),HBA.out.2.only ((Only.of_kept k9).alloc _),(MapKept.heap_alloc w9 _).1⟩
      clear k9 HK9 H5 HBA H8 HMT;revert H9;generalize w9.heap.size = kv;generalize World.alloc w9 _ = wA;intro H9
      cases hok : tt.ok with
      | false =>
       have HE : Hid (tchL B n (allP B n i ++ rowP B i (j + 1)) = tchL B n (allP B n i ++ rowP B i j)) := by show _ = _; rw [HE0.out,HTX.out,hok]; simp
       clear hok;go_wp2_with fail
       go_roundg (m - (j + 1))
       case measure => have := H4.out.2; omega
       case rel => exact ⟨v,j + 1,rfl,by go_num,⟨by omega,rfl⟩,by rw [HE.out]; exact ⟨HT.out.sl.only H9.out.1 (by simp),HT.out.only.trans H9.out.1,HT.out.new⟩,H9.out.2.1⟩
      | true =>
       have HE : Hid (tchL B n (allP B n i ++ rowP B i (j + 1)) = tchL B n (allP B n i ++ rowP B i j) ++ [⟨p.id,q.id,⟨tt.x,tt.y,tt.z⟩,tt.d⟩]) := by show _ = _; rw [HE0.out,HTX.out,hok]; simp
       clear hok;have a0 := H9.out.2.1.off 0; have b0 := H9.out.2.2.1.off 0;have g0 := H9.out.2.2.2.off 0; have g1 := H9.out.2.2.2.off 1; have g2' := H9.out.2.2.2.off 2;simp only [zR] at a0 b0 g0 g1 g2';have hsl := HT.out.sl.only H9.out.1 (by simp);have hml := HLEN.out;obtain ⟨i2,hi0,hz0,hz1,hz2⟩ := y0k touchInfo;unfold SlTc at hsl;go_wp2_with (first | (at_builtin; refine wpList_append_own_at _ rfl _ _ 65 rfl 0 68 i2 (.agg #[I 0,I 0,I 0,I 0,I 0,I 0]) 6 48 Tryz.underlying65 hi0 hz0 hz1 hz2 rfl (by decide) v _ _ rfl (World.ownsRow.alloc hsl _) (Y wA.heap.size 0) 1 1 [I p.id,I q.id,I tt.x,I tt.y,I tt.z,I tt.d] rfl rfl (ygz _ _ _ _ _ _ _ _) (by simp [Value.oneCell']) (by unfold maxLen; omega) (by omega) (by simp) ?_; intro v' wa hown hgrow hnil hloc; have HA : Hid (_ ∧ _ ∧ _) := SlTc.put (q := ⟨p.id,q.id,⟨tt.x,tt.y,tt.z⟩,tt.d⟩) hown hgrow hloc; clear hown hgrow hnil hloc hsl))
       go_roundg (m - (j + 1))
       case measure => have := H4.out.2; omega
       case rel =>
        refine ⟨v',j + 1,rfl,by go_num,⟨by omega,rfl⟩,?_,?_⟩
        ·rw [HE.out]
         obtain ⟨h1,h2,h3⟩ := HA.out
         exact ⟨h1,(HT.out.only.trans H9.out.1).then h2 (fun b hb => Or.inr (HT.out.new b hb)),fun b hb => by
          rcases h3 b hb with e | e
          ·exact HT.out.new b e
          ·exact Nat.le_trans (HT.out.only.trans H9.out.1).size e⟩
        ·exact BodyAt.onlyD H9.out.2.1 HA.out.2.1 ((HT.out.sl.only H9.out.1 (by simp)).apart H9.out.2.1)
    ·have hjl : ¬ (j : Int) < (m : Int) := by omega
     obtain rfl : j = m := by have := H4.out.1; omega
     go_wp2_with fail
     go_roundg (n - (i + 1))
     case measure => have := H2.out.2; have := HM.out.2; omega
     case rel => exact ⟨v,i + 1,rfl,by go_num,⟨by have := HM.out.2; omega,rfl⟩,by rw [allP,← HM.out.1]; exact HT.out⟩
  ·have hil : ¬ (i : Int) < (n : Int) := by omega
   obtain rfl : i = n := by have := H2.out.1; omega
   go_wp2_with fail
   go_ret
   exact ⟨v,rfl,HT.out⟩
end Go.Proofs.YtbenlgandjjopaaGreatDoor
