/- . -/
import Derived.Test.YtbenlgandjjopaaGreatDoorN20
import Derived.Test.YtbenlgandjjopaaGreatDoorN24
import Derived.Test.YtbenlgandjjopaaGreatDoorN21
open Go.Value renaming int → J
open Go.IntKind renaming i64 → U
open List renaming mem_singleton → zrc
namespace Go.Proofs.YtbenlgandjjopaaGreatDoor
set_option maxRecDepth 100000
set_option maxHeartbeats 8000000
open Go.ChangeShapes Go.WideShapes Go.ChangeAt Go.RowKit
set_option linter.unusedVariables false
set_option linter.unusedSimpArgs false
variable {n x cap t g j g3 o k : Nat} {w w' w2 w3 wr w0 : World} {q p : Bd} {a a3 : Option Addr} {B C C' : Nat → Bd} {c : Wc} {la st : Int} {D E : List Nat} {v : Value} {ts : List Tc} {ρ : Operand → Value} {op : Oper}
def Rises (B : Nat → Bd) (n : Nat) : Prop := ∀ i k,i < k → k < n → (B i).id < (B k).id
def getX (B : Nat → Bd) (n : Nat) (id : Int) : Bd := match findX B id n with
 | some i => B i
 | none => bd0
theorem Rises.alone (h : Rises B n) : Alone n B := fun i k hi hk e => by
 rcases Nat.lt_trichotomy i k with q | q | q
 ·have := h i k q hk; omega
 ·exact q
 ·have := h k i q hi; omega
theorem ydm (h : Rises B n) {id : Int} {r : Nat} {v : Bool} (hf : FindIs B n id r v) : bodyX B r v = getX B n id := by
 obtain ⟨⟨h1,h2,h3⟩,h4⟩ := hf;unfold getX
 cases hx : findX B id n with
 | some i =>
  obtain ⟨hi,hid⟩ := y0c hx
  have hri : r = i := by
   rcases Nat.lt_trichotomy r i with q | q | q
   ·rcases h3 with e | e
    ·omega
    ·have := h r i q hi; omega
   ·exact q
   ·rcases h2 with e | e
    ·omega
    ·by_cases e1 : i = r - 1
     ·subst e1; omega
     ·have := h i (r - 1) (by omega) (by omega); omega
  subst hri;have hv : v = true := by rw [h4]; simp [hi,hid]
  subst hv; rfl
 | none =>
  have hno := y4o hx
  have hv : v = false := by
   rw [h4];by_cases hr : r < n
   ·simp [hr,hno r hr]
   ·simp [hr]
  subst hv; rfl
def tchX (p q : Bd) : List Tc := if (touchT p.kd p.sx p.sy p.sz p.ax p.ay p.az q.kd q.sx q.sy q.sz q.ax q.ay q.az).ok = true then [⟨p.id,q.id,⟨(touchT p.kd p.sx p.sy p.sz p.ax p.ay p.az q.kd q.sx q.sy q.sz q.ax q.ay q.az).x,(touchT p.kd p.sx p.sy p.sz p.ax p.ay p.az q.kd q.sx q.sy q.sz q.ax q.ay q.az).y,(touchT p.kd p.sx p.sy p.sz p.ax p.ay p.az q.kd q.sx q.sy q.sz q.ax q.ay q.az).z⟩,(touchT p.kd p.sx p.sy p.sz p.ax p.ay p.az q.kd q.sx q.sy q.sz q.ax q.ay q.az).d⟩] else []
def tchL (B : Nat → Bd) (n : Nat) (P : List (Int × Int)) : List Tc := P.flatMap (fun c => tchX (getX B n c.1) (getX B n c.2))
theorem tchX_len (p q : Bd) : (tchX p q).length ≤ 1 := by unfold tchX; split <;> simp
theorem y4w (B : Nat → Bd) (n : Nat) : ∀ P : List (Int × Int),(tchL B n P).length ≤ P.length
 | [] => by simp [tchL]
 | c :: P => by
  have h1 := y4w B n P;have h2 := tchX_len (getX B n c.1) (getX B n c.2);simp only [tchL,List.flatMap_cons,List.length_append,List.length_cons] at h1 ⊢;omega
theorem yde (B : Nat → Bd) (n : Nat) (P : List (Int × Int)) (c : Int × Int) : tchL B n (P ++ [c]) = tchL B n P ++ tchX (getX B n c.1) (getX B n c.2) := by simp [tchL]
def tcL (t : Tc) : List Value := [J U t.a,J U t.b,J U t.way.x,J U t.way.y,J U t.way.z,J U t.deep]
def SlTc (w : World) (v : Value) (ts : List Tc) : Prop := w.ownsRow 0 68 6 v ts.length (ts.flatMap tcL)
theorem SlTc.only (h : SlTc w v ts) (o : Only D w w') (s : ∀ b ∈ ownM v,b ∉ D) : SlTc w' v ts := by
 obtain ⟨hl,⟨rfl,hn⟩ | ⟨q,cap,cur,rfl,hb,hh,h1,h2,h3,h4⟩⟩ := h
 ·exact ⟨hl,Or.inl ⟨rfl,hn⟩⟩
 ·exact ⟨hl,Or.inr ⟨q,cap,cur,rfl,hb,(o.block q (Array.getElem?_eq_some_iff.1 hh).1 (s q (by simp [ownM,Value.ownBlock]))).trans hh,h1,h2,h3,h4⟩⟩
theorem SlTc.nil (w : World) : SlTc w (.slice none 0 0) [] := World.ownsRow_nil w 0 _ _
theorem touchInfo : (Tryz.prog.info? 68).map (fun i => (i.zero,i.size,i.bytes)) = some (some (.agg #[I 0,I 0,I 0,I 0,I 0,I 0]),6,48) := by kernel_rfl
theorem SlTc.put {v' : Value} {q : Tc} {T : TypeId} (hown : w3.ownsRow 0 68 6 v' (ts.length + 1) (ts.flatMap tcL ++ tcL q)) (hgrow : (w2.alloc (.cells (tcL q).toArray T)).grownBy w3 v.ownBlock)
  (hloc : v'.ownBlock = v.ownBlock ∨ v'.ownBlock = some (w2.alloc (.cells (tcL q).toArray T)).heap.size) : SlTc w3 v' (ts ++ [q]) ∧ Only (ownM v) w2 w3 ∧ (∀ b ∈ ownM v',b ∈ ownM v ∨ w2.heap.size ≤ b) := by
 refine ⟨?_,?_,?_⟩
 ·unfold SlTc; rw [List.flatMap_append,List.length_append]; simpa using hown
 ·refine ((Only.refl _ _).alloc _).grown hgrow (fun k hk => Or.inl ?_)
  simp [ownM,hk]
 ·intro x hx
  rcases hloc with e | e
  ·left; simpa [ownM,e] using hx
  ·right
   simp only [ownM,e,Option.toList_some,zrc] at hx;simp at hx; omega
theorem yhx (M : List (Int × Bx)) (p : Int × Bx) : (pairM M p).length ≤ M.length := by
 unfold pairM above;rw [List.length_map];refine Nat.le_trans (List.length_filter_le _ _) ?_;rw [List.length_map];exact List.length_filter_le _ _
theorem y85 (M : List (Int × Bx)) : (pairsM M).length ≤ M.length * M.length := by
 unfold pairsM;rw [show (sort2 (M.flatMap (pairM M))).length = (M.flatMap (pairM M)).length from (List.mergeSort_perm _ _).length_eq]
 have key : ∀ L : List (Int × Bx),(L.flatMap (pairM M)).length ≤ L.length * M.length := by
  intro L
  induction L with
  | nil => simp
  | cons p L ih =>
   have := yhx M p;rw [List.flatMap_cons,List.length_append,List.length_cons,Nat.succ_mul]; omega
 exact key M
theorem ygz (w : World) (a0 a1 a2 a3 a4 a5 : Value) (t : TypeId) : ∀ j u,[a0,a1,a2,a3,a4,a5][j]? = some u → (w.alloc (.cells #[a0,a1,a2,a3,a4,a5] t)).cell? ((Y w.heap.size 0).add j) = some u := by
 intro j u hj
 match j,hj with
 | 0,hj => simp at hj; subst hj; simp [Addr.add]
 | 1,hj => simp at hj; subst hj; simp [Addr.add]
 | 2,hj => simp at hj; subst hj; simp [Addr.add]
 | 3,hj => simp at hj; subst hj; simp [Addr.add]
 | 4,hj => simp at hj; subst hj; simp [Addr.add]
 | 5,hj => simp at hj; subst hj; simp [Addr.add]
 | j + 6,hj => simp at hj
structure TW (w : World) (v : Value) (ts : List Tc) (wr : World) : Prop where
 sl : SlTc wr v ts
 only : Only [] w wr
 new : ∀ b ∈ ownM v,w.heap.size ≤ b
theorem y52 (w0 : World) (x g : Nat) (c : Wc) (a : Option Addr) (n cap t : Nat) (la st : Int) (B : Nat → Bd) (M : List (Int × Bx)) (D : List Nat) (w : World) (hn : n ≤ 60) (h : WW E w0 x g c a n cap t la st B M D w) (hr : Rises B n) :
  Calls Tryz.prog 20 #[.pointer (some (Y x 0))] w fun e w' => ∃ v,e = .returned v ∧ TW w v (tchL B n (pairsM M)) w' := by
 have HW : Hid (WW E w0 x g c a n cap t la st B M D w ∧ n ≤ 60 ∧ Rises B n) := ⟨h,hn,hr⟩;clear h hn hr;have s8 := HW.out.1.wa.off 8;simp only [zR] at s8;go_enter Tryz.func20,Tryz.ntmps20
 go_wp2_with fail
 refine (y8r t 65536 D M w HW.out.1.tree).mono ?_;rintro e w1 ⟨pv,rfl,hsp,o1,hnw⟩;obtain ⟨ap,cp,rfl,hsh⟩ := hsp.shape
 have HP : Hid ((pairsM M).length ≤ 3600 ∧ Only [] w w1) := by
  refine ⟨?_,o1⟩;have h3 := y85 M;have h5 : M.length * M.length ≤ 60 * 60 := Nat.mul_le_mul HW.out.1.tree.small HW.out.1.tree.small;omega
 clear s8 hsp hnw o1;generalize hPM : pairsM M = P at HP hsh ⊢;have HPM : Hid (pairsM M = P) := hPM;clear hPM;have HSH : Hid (∀ j (hj : j < P.length),∃ g,ap = some (Y g 0) ∧ w1.cell? (Y g (j * 2)) = some (I (P[j].1)) ∧ w1.cell? (Y g (j * 2 + 1)) = some (I (P[j].2))) := hsh;clear hsh;go_wp2_with fail
 go_loopg [3,19] P.length (fun k sv idx wr => ∃ (v : Value) (j : Nat),v = sv ∧ idx = I (j : Int) ∧ Hid (j ≤ P.length ∧ k = P.length - j) ∧ Hid (TW w1 v (tchL B n (P.take j)) wr))
 case atStart => exact ⟨_,0,rfl,rfl,⟨by omega,rfl⟩,SlTc.nil _,Only.refl _ _,by simp [ownM,Value.ownBlock]⟩
 case round =>
  obtain ⟨v,j,rfl,rfl,H2,HT⟩ := hrel;have hp36 := HP.out.1;by_cases hj : j < P.length
  ·have hjl : (j : Int) < (P.length : Int) := by omega
   have HTK : Hid (tchL B n (P.take (j + 1)) = tchL B n (P.take j) ++ tchX (getX B n P[j].1) (getX B n P[j].2)) := by
    show _ = _;rw [← List.take_append_getElem hj,yde]
   obtain ⟨gp,rfl,hc1,hc2⟩ := HSH.out j hj;have d1 := y09 HT.out.only hc1;have d2 := y09 HT.out.only hc2;clear hc1 hc2;generalize P[j].1 = pa at d1 HTK;generalize P[j].2 = pb at d2 HTK;go_upto_region 5 with fail
   clear d1 d2;have H3 : Hid (Only [] wr (wr.alloc (.cells #[I pa,I pb] 103)) ∧ (wr.alloc (.cells #[I pa,I pb] 103)).heap[wr.heap.size]? = some (.cells #[I pa,I pb] 103)) := ⟨(Only.refl [] wr).alloc _,(MapKept.heap_alloc wr _).1⟩;revert H3;generalize wr.heap.size = kp;generalize World.alloc wr _ = w3;intro H3;have HPC : Hid (∀ w',Only [] w3 w' → w'.cell? (Y kp 0) = some (I pa) ∧ w'.cell? (Y kp 1) = some (I pb)) := fun w' o => ⟨y09 o (by simp [World.cell?,H3.out.2]),y09 o (by simp [World.cell?,H3.out.2])⟩;have HO3 : Hid (Only [] w w3) := (HP.out.2.trans HT.out.only).trans H3.out.1;obtain ⟨e0,e1⟩ := HPC.out _ (Only.refl [] w3);go_wp2_with fail
   refine (y5g x pa c a n cap t la st B w3 HW.out.2.1 (HW.out.1.wa.only HO3.out (by simp)) (HW.out.1.own.bodies.only HO3.out)).mono ?_;rintro e w4 ⟨r1,v1,rfl,hf1,o4⟩;clear e0 e1;rw [ydm HW.out.2.2 hf1];clear hf1;generalize getX B n pa = p at HTK;unfold bdV;go_upto_region 6 with fail
   have H4 : Hid (Only [] w3 (w4.alloc (.cells (bdA p) 45)) ∧ BodyAt (w4.alloc (.cells (bdA p) 45)) w4.heap.size p) := ⟨o4.alloc _,(MapKept.heap_alloc w4 _).1⟩;clear o4;revert H4;generalize w4.heap.size = ka;generalize World.alloc w4 _ = w5;intro H4;obtain ⟨e0,e1⟩ := HPC.out _ H4.out.1;go_wp2_with fail
   refine (y5g x pb c a n cap t la st B w5 HW.out.2.1 (HW.out.1.wa.only (HO3.out.trans H4.out.1) (by simp)) (HW.out.1.own.bodies.only (HO3.out.trans H4.out.1))).mono ?_;rintro e w6 ⟨r2,v2,rfl,hf2,o6⟩;clear e0 e1;rw [ydm HW.out.2.2 hf2];clear hf2;generalize getX B n pb = q at HTK;unfold bdV;go_upto_region 7 with fail
   have H6 : Hid (Only [] w3 (w6.alloc (.cells (bdA q) 45)) ∧ BodyAt (w6.alloc (.cells (bdA q) 45)) ka p ∧ BodyAt (w6.alloc (.cells (bdA q) 45)) w6.heap.size q) := ⟨(H4.out.1.trans o6).alloc _,H4.out.2.only (o6.alloc _),(MapKept.heap_alloc w6 _).1⟩;clear o6 H4;revert H6;generalize w6.heap.size = kc;generalize World.alloc w6 _ = w7;intro H6;have HA := H6.out.2.1; have HC := H6.out.2.2;have a2 := HA.off 2; have b2 := HC.off 2;have a3 := HA.off 3; have b3 := HC.off 3;have a4 := HA.off 4; have b4 := HC.off 4;have a5 := HA.off 5; have b5 := HC.off 5;have a6 := HA.off 6; have b6 := HC.off 6;have a7 := HA.off 7; have b7 := HC.off 7;have a8 := HA.off 8; have b8 := HC.off 8;simp only [zR] at a2 b2 a3 b3 a4 b4 a5 b5 a6 b6 a7 b7 a8 b8;clear HA HC;go_wp2_with fail
   refine (y9i p.kd p.sx p.sy p.sz p.ax p.ay p.az q.kd q.sx q.sy q.sz q.ax q.ay q.az _).mono ?_;rintro e w8 ⟨rfl,k8⟩;clear a2 b2 a3 b3 a4 b4 a5 b5 a6 b6 a7 b7 a8 b8;have HTX : Hid (tchX p q = if (touchT p.kd p.sx p.sy p.sz p.ax p.ay p.az q.kd q.sx q.sy q.sz q.ax q.ay q.az).ok = true then [⟨p.id,q.id,⟨(touchT p.kd p.sx p.sy p.sz p.ax p.ay p.az q.kd q.sx q.sy q.sz q.ax q.ay q.az).x,(touchT p.kd p.sx p.sy p.sz p.ax p.ay p.az q.kd q.sx q.sy q.sz q.ax q.ay q.az).y,(touchT p.kd p.sx p.sy p.sz p.ax p.ay p.az q.kd q.sx q.sy q.sz q.ax q.ay q.az).z⟩,(touchT p.kd p.sx p.sy p.sz p.ax p.ay p.az q.kd q.sx q.sy q.sz q.ax q.ay q.az).d⟩] else []) := rfl;generalize touchT p.kd p.sx p.sy p.sz p.ax p.ay p.az q.kd q.sx q.sy q.sz q.ax q.ay q.az = tt at HTX ⊢;go_upto_region 8 with fail
   have H8 : Hid (Only [] w3 (w8.alloc (.cells #[I tt.x,I tt.y,I tt.z] 23)) ∧ BodyAt (w8.alloc (.cells #[I tt.x,I tt.y,I tt.z] 23)) ka p ∧ BodyAt (w8.alloc (.cells #[I tt.x,I tt.y,I tt.z] 23)) kc q ∧ VecAt (w8.alloc (.cells #[I tt.x,I tt.y,I tt.z] 23)) w8.heap.size tt.x tt.y tt.z) :=
    ⟨(H6.out.1.trans (Only.of_kept k8)).alloc _,H6.out.2.1.only ((Only.of_kept k8).alloc _),H6.out.2.2.only ((Only.of_kept k8).alloc _),(MapKept.heap_alloc w8 _).1⟩
   clear k8 H6;revert H8;generalize w8.heap.size = kv;generalize World.alloc w8 _ = w9;intro H8
   cases hok : tt.ok with
   | false =>
    have HE : Hid (tchL B n (P.take (j + 1)) = tchL B n (P.take j)) := by show _ = _; rw [HTK.out,HTX.out,hok]; simp
    clear hok;go_wp2_with fail
    go_roundg (P.length - (j + 1))
    case measure => have := H2.out.2; omega
    case rel => exact ⟨v,j + 1,rfl,by go_num,⟨by omega,rfl⟩,by rw [HE.out]; exact ⟨HT.out.sl.only (H3.out.1.trans H8.out.1) (by simp),HT.out.only.trans (H3.out.1.trans H8.out.1),HT.out.new⟩⟩
   | true =>
    have HE : Hid (tchL B n (P.take (j + 1)) = tchL B n (P.take j) ++ [⟨p.id,q.id,⟨tt.x,tt.y,tt.z⟩,tt.d⟩]) := by show _ = _; rw [HTK.out,HTX.out,hok]; simp
    clear hok;have a0 := H8.out.2.1.off 0; have b0 := H8.out.2.2.1.off 0;have g0 := H8.out.2.2.2.off 0; have g1 := H8.out.2.2.2.off 1; have g2 := H8.out.2.2.2.off 2;simp only [zR] at a0 b0 g0 g1 g2;have hsl := HT.out.sl.only (H3.out.1.trans H8.out.1) (by simp);have hml : (tchL B n (P.take j)).length ≤ 3600 := Nat.le_trans (y4w B n _) (by rw [List.length_take]; omega);obtain ⟨i2,hi0,hz0,hz1,hz2⟩ := y0k touchInfo;unfold SlTc at hsl;go_wp2_with (first | (at_builtin; refine wpList_append_own_at _ rfl _ _ 65 rfl 0 68 i2 (.agg #[I 0,I 0,I 0,I 0,I 0,I 0]) 6 48 Tryz.underlying65 hi0 hz0 hz1 hz2 rfl (by decide) v _ _ rfl (World.ownsRow.alloc hsl _) (Y w9.heap.size 0) 1 1 [I p.id,I q.id,I tt.x,I tt.y,I tt.z,I tt.d] rfl rfl (ygz _ _ _ _ _ _ _ _) (by simp [Value.oneCell']) (by unfold maxLen; omega) (by omega) (by simp) ?_; intro v' wa hown hgrow hnil hloc; have HA : Hid (_ ∧ _ ∧ _) := SlTc.put (q := ⟨p.id,q.id,⟨tt.x,tt.y,tt.z⟩,tt.d⟩) hown hgrow hloc; clear hown hgrow hnil hloc hsl))
    go_roundg (P.length - (j + 1))
    case measure => have := H2.out.2; omega
    case rel =>
     refine ⟨v',j + 1,rfl,by go_num,⟨by omega,rfl⟩,?_⟩;rw [HE.out];obtain ⟨h1,h2,h3⟩ := HA.out
     exact ⟨h1,(HT.out.only.trans (H3.out.1.trans H8.out.1)).then h2 (fun b hb => Or.inr (HT.out.new b hb)),fun b hb => by
      rcases h3 b hb with e | e
      ·exact HT.out.new b e
      ·exact Nat.le_trans (HT.out.only.trans (H3.out.1.trans H8.out.1)).size e⟩
  ·have hjl : ¬ (j : Int) < (P.length : Int) := by omega
   obtain rfl : j = P.length := by have := H2.out.1; omega
   have HE : Hid (tchL B n (P.take P.length) = tchL B n P) := by show _ = _; rw [List.take_length]
   go_wp2_with fail
   go_ret
   refine ⟨v,rfl,?_,HP.out.2.trans HT.out.only,fun b hb => Nat.le_trans HP.out.2.size (HT.out.new b hb)⟩;rw [HPM.out,← HE.out]; exact HT.out.sl
def tc0 : Tc := ⟨0,0,⟨0,0,0⟩,0⟩
theorem flat6 : ∀ (ts : List Tc) (j : Nat) (hj : j < ts.length) (k : Nat),k < 6 → (ts.flatMap tcL)[j * 6 + k]? = (tcL ts[j])[k]?
 | [],j,hj,k,hk => by simp at hj
 | t :: ts,0,hj,k,hk => by
  rw [List.flatMap_cons,List.getElem?_append_left (by simp [tcL]; omega)];simp
 | t :: ts,j + 1,hj,k,hk => by
  have h := flat6 ts j (by simpa using hj) k hk;rw [List.flatMap_cons,List.getElem?_append_right (by simp [tcL]; omega)];have e : (j + 1) * 6 + k - (tcL t).length = j * 6 + k := by simp [tcL]; omega
  rw [e,h];simp
theorem yj0 (ts : List Tc) : (ts.flatMap tcL).length = ts.length * 6 := by
 induction ts with
 | nil => rfl
 | cons t ts ih => rw [List.flatMap_cons,List.length_append,ih,List.length_cons]; simp [tcL]; omega
theorem SlTc.touches (h : SlTc w v ts) (hid : ∀ t ∈ ts,In64S t.a ∧ In64S t.b) : ∃ a c,v = .slice a ts.length c ∧ TouchesAt w a ts.length (fun j => ts.getD j tc0) ∧ (∀ g o s,a = some ⟨g,o,s⟩ → g ∈ ownM v ∧ g < w.heap.size) := by
 obtain ⟨hl,⟨rfl,hn⟩ | ⟨g,cap,cur,rfl,hb,hh,h1,h2,h3,h4⟩⟩ := h
 ·have e : ts = [] := List.eq_nil_of_length_eq_zero hn
  subst e;exact ⟨none,0,rfl,fun j hj => by simp at hj,fun g o s e => by cases e⟩
 ·refine ⟨_,cap,rfl,fun j hj => ?_,fun g' o' s' e => by
   injection e with e; injection e with e1; subst e1
   exact ⟨by simp [ownM,Value.ownBlock],(Array.getElem?_eq_some_iff.1 hh).1⟩⟩
  have e : ts.getD j tc0 = ts[j] := by simp [hj]
  have hm := hid ts[j] (List.getElem_mem hj)
  have hc : ∀ k,k < 6 → w.cell? (Y g (0 + j * 6 + k)) = (tcL ts[j])[k]? := fun k hk => by
   have h5 := flat6 ts j hj k hk;rw [← h4,List.getElem?_take_of_lt (by have := yj0 ts; omega),Array.getElem?_toList] at h5;rw [← h5,Nat.zero_add];simp [World.cell?,hh]
  simp only [e];exact ⟨hm.1,hm.2,g,0,rfl,hc 0 (by omega),hc 1 (by omega),hc 2 (by omega),hc 3 (by omega),hc 4 (by omega),hc 5 (by omega)⟩
def touchesOf (c : Wc) (B : Nat → Bd) (n : Nat) (M : List (Int × Bx)) : List Tc := tchL (mapTo (driveB c) B n) n (pairsM M)
def stepT (c : Wc) (B : Nat → Bd) (n : Nat) (ts : List Tc) : Nat → Bd :=
 placesX n (mapTo moveB (speedsM n (mapTo (driveB c) B n) (fun j => ts.getD j tc0) ts.length c.bo c.ru c.ro) n) (fun j => ts.getD j tc0) ts.length
def stepW (c : Wc) (B : Nat → Bd) (n : Nat) (M : List (Int × Bx)) : Nat → Bd := stepT c B n (touchesOf c B n M)
def hangM (B : Nat → Bd) (M : List (Int × Bx)) : Nat → List (Int × Bx)
 | 0 => M
 | k + 1 => putM (hangM B M k) (B k).id (boxB (B k))
theorem y2m {f : Bd → Bd} (hf : ∀ q,(f q).id = q.id) (B : Nat → Bd) (p j : Nat) : (mapTo f B p j).id = (B j).id := by unfold mapTo; split <;> simp [hf]
theorem y47 (c : Wc) (q : Bd) : (driveB c q).id = q.id := by unfold driveB; split <;> rfl
theorem y7m (q : Bd) : (moveB q).id = q.id := rfl
theorem Rises.congr (h : Rises B n) (e : ∀ j,(C j).id = (B j).id) : Rises C n := fun i k hi hk => by rw [e,e]; exact h i k hi hk
def Same (p q : Bd) : Prop := q.id = p.id ∧ q.ow = p.ow ∧ q.kd = p.kd ∧ q.sx = p.sx ∧ q.sy = p.sy ∧ q.sz = p.sz ∧ q.px = p.px ∧ q.py = p.py ∧ q.pz = p.pz ∧ q.ms = p.ms ∧ q.tm = p.tm
theorem Same.refl (p : Bd) : Same p p := ⟨rfl,rfl,rfl,rfl,rfl,rfl,rfl,rfl,rfl,rfl,rfl⟩
theorem Same.trans {p q r : Bd} (h : Same p q) (k : Same q r) : Same p r := by
 obtain ⟨a1,a2,a3,a4,a5,a6,a7,a8,a9,a10,a11⟩ := h;obtain ⟨b1,b2,b3,b4,b5,b6,b7,b8,b9,b10,b11⟩ := k;exact ⟨b1.trans a1,b2.trans a2,b3.trans a3,b4.trans a4,b5.trans a5,b6.trans a6,b7.trans a7,b8.trans a8,b9.trans a9,b10.trans a10,b11.trans a11⟩
theorem SpOnly.same (h : SpOnly p q) : Same p q := by
 unfold SpOnly at h; rw [h]; exact ⟨rfl,rfl,rfl,rfl,rfl,rfl,rfl,rfl,rfl,rfl,rfl⟩
theorem AtOnly.same (h : AtOnly p q) : Same p q := by
 unfold AtOnly at h; rw [h]; exact ⟨rfl,rfl,rfl,rfl,rfl,rfl,rfl,rfl,rfl,rfl,rfl⟩
theorem SpOnly.at {p q : Bd} (h : SpOnly p q) : q.ax = p.ax ∧ q.ay = p.ay ∧ q.az = p.az := by
 unfold SpOnly at h; rw [h]; exact ⟨rfl,rfl,rfl⟩
theorem AtOnly.sp (h : AtOnly p q) : q.vx = p.vx ∧ q.vy = p.vy ∧ q.vz = p.vz := by
 unfold AtOnly at h; rw [h]; exact ⟨rfl,rfl,rfl⟩
theorem yjc {k : Int} (h : 0 ≤ k) (n : Int) : -k ≤ cl k n ∧ cl k n ≤ k := by unfold cl; split <;> (try split) <;> omega
theorem y51 (n : Int) : -6553600 ≤ cl 6553600 n ∧ cl 6553600 n ≤ 6553600 := yjc (by omega) n
theorem y2k (n : Int) : -65536000 ≤ cl 65536000 n ∧ cl 65536000 n ≤ 65536000 := yjc (by omega) n
theorem yjf (c : Wc) (q : Bd) : SpOnly q (driveB c q) := by
 unfold driveB; split
 ·exact rfl
 ·exact SpOnly.refl q
theorem ykx (c : Wc) (h : InV q) : InV (driveB c q) := by
 unfold driveB; split
 ·exact ⟨y51 _,y51 _,y51 _⟩
 ·exact h
theorem yge (c : Wc) (h : q.ms ≤ 0) : driveB c q = q := by
 unfold driveB; rw [if_neg (by omega)]
theorem yhl (q : Bd) : Same q (moveB q) := ⟨rfl,rfl,rfl,rfl,rfl,rfl,rfl,rfl,rfl,rfl,rfl⟩
theorem moveB_at (q : Bd) : InA (moveB q) := ⟨y2k _,y2k _,y2k _⟩
theorem yjh {p : Prop} [Decidable p] {v : Int} (h : -6553600 ≤ v ∧ v ≤ 6553600) : -6553600 ≤ (if p then v else 0) ∧ (if p then v else 0) ≤ 6553600 := by
 split
 ·exact h
 ·omega
theorem moveB_sp (h : InV q) : InV (moveB q) := ⟨yjh h.1,yjh h.2.1,yjh h.2.2⟩
theorem ykm (q : Bd) : InV (clampB q) := ⟨y51 _,y51 _,y51 _⟩
theorem partX_in (B : Nat → Bd) (i k : Nat) (x y all : Int) (w : V3) (deep : Int) (q : Nat) (h : InA (B q)) : InA (partX B i k x y all w deep q) := by
 show InA (upd (upd B i _) k _ q);unfold upd;split
 ·exact ⟨y2k _,y2k _,y2k _⟩
 ·split
  ·exact ⟨y2k _,y2k _,y2k _⟩
  ·exact h
theorem yag (n : Nat) (B : Nat → Bd) (T : Nat → Tc) (q : Nat) (h : InA (B q)) : ∀ m,InA (placesX n B T m q)
 | 0 => h
 | m + 1 => by
  have e := yag n B T q h m;show InA (stepX n (placesX n B T m) (T m) q);rcases y5f n (placesX n B T m) (T m) with r | ⟨i,k,x,y,all,r⟩
  ·rw [r]; exact e
  ·rw [r]; exact partX_in _ _ _ _ _ _ _ _ _ e
theorem yhh (n : Nat) (B : Nat → Bd) (T : Nat → Tc) (m : Nat) (bo ru ro : Int) (q : Nat) (hq : q < n) (h : InV (B q)) : InV (speedsT n B T m bo ru ro q) := by
 unfold speedsT;split
 ·show InV (if q < n then clampB (roundsT n bo ru B T m ro.toNat q) else roundsT n bo ru B T m ro.toNat q)
  rw [if_pos hq]; exact ykm _
 ·exact h
theorem y7o (f : Bd → Bd) (B : Nat → Bd) {p : Nat} (h : j < p) : mapTo f B p j = f (B j) := by unfold mapTo; rw [if_pos h]
theorem ykf (c : Wc) (B : Nat → Bd) (n : Nat) (ts : List Tc) (hj : j < n) (hv : InV (B j)) :
  Same (B j) (stepT c B n ts j) ∧ InV (stepT c B n ts j) ∧ InA (stepT c B n ts j) ∧
  ((B j).ms ≤ 0 → cl 65536000 (add (B j).ax (B j).vx) = add (B j).ax (B j).vx → cl 65536000 (add (B j).ay (B j).vy) = add (B j).ay (B j).vy → cl 65536000 (add (B j).az (B j).vz) = add (B j).az (B j).vz →
   (stepT c B n ts j).vx = (B j).vx ∧ (stepT c B n ts j).vy = (B j).vy ∧ (stepT c B n ts j).vz = (B j).vz) := by
 unfold stepT;rw [y2w];generalize (fun j => ts.getD j tc0) = T;have e1 : mapTo (driveB c) B n j = driveB c (B j) := y7o _ _ hj;have v1 : InV (mapTo (driveB c) B n j) := by rw [e1]; exact ykx c hv
 have s1 : SpOnly (B j) (mapTo (driveB c) B n j) := by rw [e1]; exact yjf c _
 have s2 := y4z n (mapTo (driveB c) B n) T ts.length c.bo c.ru c.ro j;have v2 := yhh n (mapTo (driveB c) B n) T ts.length c.bo c.ru c.ro j hj v1
 have z2 : (B j).ms ≤ 0 → speedsT n (mapTo (driveB c) B n) T ts.length c.bo c.ru c.ro j = B j := fun hm => by
  have e2 : mapTo (driveB c) B n j = B j := by rw [e1,yge c hm]
  rw [yci n _ T _ _ _ _ j v1 (fun k _ => Or.inl (by rw [e2]; exact hm)),e2]
 generalize hB2 : speedsT n (mapTo (driveB c) B n) T ts.length c.bo c.ru c.ro = B2 at *;have e3 : mapTo moveB B2 n j = moveB (B2 j) := y7o _ _ hj;have a4 := yao n (mapTo moveB B2 n) T j ts.length;have i4 := yag n (mapTo moveB B2 n) T j (by rw [e3]; exact moveB_at _) ts.length;rw [e3] at a4;have q4 := a4.sp;refine ⟨((s1.same.trans s2.same).trans (yhl _)).trans a4.same,?_,i4,fun hm hx hy hz => ?_⟩
 ·have := moveB_sp v2
  obtain ⟨h1,h2,h3⟩ := q4;unfold InV;rw [h1,h2,h3]; exact this
 ·rw [z2 hm] at q4
  obtain ⟨h1,h2,h3⟩ := q4;rw [h1,h2,h3];refine ⟨?_,?_,?_⟩
  ·show (if cl 65536000 (add (B j).ax (B j).vx) = add (B j).ax (B j).vx then (B j).vx else 0) = _
   rw [if_pos hx]
  ·show (if cl 65536000 (add (B j).ay (B j).vy) = add (B j).ay (B j).vy then (B j).vy else 0) = _
   rw [if_pos hy]
  ·show (if cl 65536000 (add (B j).az (B j).vz) = add (B j).az (B j).vz then (B j).vz else 0) = _
   rw [if_pos hz]
theorem WorldAt.slice {w : World} {x : Nat} {c : Wc} {a : Option Addr} {n cap t : Nat} {la st : Int} (h : WorldAt w x c a n cap t la st) (a' : Option Addr) (n' cap' : Nat) : WorldAt (w.setCell (Y x 7) (.slice a' n' cap')) x c a' n' cap' t la st := by
 unfold WorldAt at *;simp [World.setCell,Array.getElem?_modify,h]
theorem WorldAt.steps (h : WorldAt w x c a n cap t la st) (st' : Int) : WorldAt (w.setCell (Y x 10) (I st')) x c a n cap t la st' := by
 unfold WorldAt at *;simp [World.setCell,Array.getElem?_modify,h]
theorem y5t (h : WorldAt w' x c a n cap t la st) : w'.cell? (Y x 3) = some (I c.bo) ∧ w'.cell? (Y x 4) = some (I c.ru) ∧ w'.cell? (Y x 5) = some (I c.ro) := ⟨h.off 3,h.off 4,h.off 5⟩
theorem WW.slice {E : List Nat} {w : World} {x g g' : Nat} {c : Wc} {a a' : Option Addr} {n cap cap' t : Nat} {la st : Int} {C C' : Nat → Bd} {M : List (Int × Bx)} {D : List Nat} {wr : World} (h : WW E w x g c a n cap t la st C M D wr) (ho : OwnS wr a' g' n C') (hg : g' ∉ D) (hl : g' < wr.heap.size) (hx : x ≠ g') (hn : g' ∈ E ∨ w.heap.size ≤ g') : WW E w x g' c a' n cap' t la st C' M D (wr.setCell (Y x 7) (.slice a' n cap')) := by
 have o : Only [x] wr (wr.setCell (Y x 7) (.slice a' n cap')) := (Only.refl [x] wr).setCell (p := Y x 7) (Or.inl (by simp)) _;exact ⟨h.wa.slice a' n cap',ho.onlyN o (fun _ => by simp only [zrc]; exact fun e => hx e.symm),h.tree.only o (fun b hb => by simp only [zrc]; exact fun e => h.xD (e ▸ hb)),h.xD,hg,Nat.lt_of_lt_of_le hl o.size,hx,h.xnew,hn,h.dnew,h.only.then o (fun b hb => by simp only [zrc] at hb; subst hb; exact h.xnew)⟩
theorem WW.steps {E : List Nat} {w : World} {x g : Nat} {c : Wc} {a : Option Addr} {n cap t : Nat} {la st : Int} {C : Nat → Bd} {M : List (Int × Bx)} {D : List Nat} {wr : World} (h : WW E w x g c a n cap t la st C M D wr) (hx : x ≠ g) (st' : Int) : WW E w x g c a n cap t la st' C M D (wr.setCell (Y x 10) (I st')) := by
 have o : Only [x] wr (wr.setCell (Y x 10) (I st')) := (Only.refl [x] wr).setCell (p := Y x 10) (Or.inl (by simp)) _;exact ⟨h.wa.steps st',h.own.onlyN o (fun _ => by simp only [zrc]; exact fun e => hx e.symm),h.tree.only o (fun b hb => by simp only [zrc]; exact fun e => h.xD (e ▸ hb)),h.xD,h.gD,Nat.lt_of_lt_of_le h.glt o.size,h.xg,h.xnew,h.gnew,h.dnew,h.only.then o (fun b hb => by simp only [zrc] at hb; subst hb; exact h.xnew)⟩
theorem WW.each {M : List (Int × Bx)} (h : WW E w x g c a n cap t la st C M D wr) (e : EW wr x g c a n cap t la st C' w') : WW E w x g c a n cap t la st C' M D w' :=
 ⟨e.wa,e.own,h.tree.only e.only (fun b hb => by simp only [zrc]; exact fun q => h.gD (q ▸ hb)),h.xD,h.gD,Nat.lt_of_lt_of_le h.glt e.only.size,h.xg,h.xnew,h.gnew,h.dnew,h.only.then e.only (fun b hb => by simp only [zrc] at hb; subst hb; exact h.gnew)⟩
theorem ykd (h : ∀ j,In64S (B j).id) (id : Int) : In64S (getX B n id).id := by
 unfold getX;split
 ·exact h _
 ·exact rfl
theorem yfh (h : ∀ j,In64S (B j).id) {P : List (Int × Int)} : ∀ t ∈ tchL B n P,In64S t.a ∧ In64S t.b := fun t ht => by
 obtain ⟨c,_,hc⟩ := List.mem_flatMap.1 ht;unfold tchX at hc;split at hc
 ·simp only [zrc] at hc
  subst hc;exact ⟨ykd h _,ykd h _⟩
 ·simp at hc
theorem yhn {M : List (Int × Bx)} (h : WW E w0 x g c a n cap t la st B M D w2) (hO : OwnS w3 a3 g3 n C) (o : Only [] w2 w3) (hg : w2.heap.size ≤ g3) : ∃ g',OwnS w3 a3 g' n C ∧ g' ∉ D ∧ g' < w3.heap.size ∧ x ≠ g' ∧ (g' ∈ E ∨ w0.heap.size ≤ g') ∧ (g' = g ∨ w2.heap.size ≤ g') := by
 by_cases h0 : n = 0
 ·exact ⟨g,Or.inl h0,h.gD,Nat.lt_of_lt_of_le h.glt o.size,h.xg,h.gnew,Or.inl rfl⟩
 ·refine ⟨g3,hO,fun hd => ?_,hO.lt h0,fun e => ?_,Or.inr (Nat.le_trans h.only.size hg),Or.inr hg⟩
  ·have := h.tree.lt _ hd; omega
  ·have := h.wa.lt; omega
theorem yks {c3 : Nat} {M : List (Int × Bx)} (h : WW E w0 x g c a n cap t la st B M D w2) (hO : OwnS w3 a3 g3 n C) (o : Only [] w2 w3) (hg : w2.heap.size ≤ g3) (hrm : Room w3 a3 n c3) (htd : Tied a3 g3) : ∃ g',OwnS w3 a3 g' n C ∧ g' ∉ D ∧ g' < w3.heap.size ∧ x ≠ g' ∧ (g' ∈ E ∨ w0.heap.size ≤ g') ∧ Tied a3 g' := by
 rcases hrm with ⟨rfl,h0,_⟩ | ⟨g2,rfl,_,_,hs⟩
 ·exact ⟨g,Or.inl h0,h.gD,Nat.lt_of_lt_of_le h.glt o.size,h.xg,h.gnew,fun _ _ _ e => by cases e⟩
 ·obtain rfl := htd g2 0 none rfl
  obtain ⟨cur,hh,_⟩ := hs;have hlt := (Array.getElem?_eq_some_iff.1 hh).1;exact ⟨g2,hO,fun hd => by have := h.tree.lt _ hd; omega,hlt,fun e => by have := h.wa.lt; omega,Or.inr (Nat.le_trans h.only.size hg),htd⟩
theorem TouchesAt.onlyD {m : Nat} {T : Nat → Tc} (h : TouchesAt w a m T) (o : Only D w w') (s : ∀ g o s,a = some ⟨g,o,s⟩ → g ∉ D) : TouchesAt w' a m T := fun j hj => by
 obtain ⟨h1,h2,g,f,e,c0,c1,c2,c3,c4,c5⟩ := h j hj;have hg := s g f none e;exact ⟨h1,h2,g,f,e,y03 o c0 hg,y03 o c1 hg,y03 o c2 hg,y03 o c3 hg,y03 o c4 hg,y03 o c5 hg⟩
theorem OwnB.range (h : OwnB w g n B) (hj : j < n) (e : B j = q) : ∀ k,k < 17 → w.cell? (Y g (j * 17 + k)) = some (bc q k) := fun k hk => by rw [← e]; exact h.cell hj hk
theorem ya8 (n : Nat) (B : Nat → Bd) (T : Nat → Tc) (m : Nat) (bo ru ro : Int) (j : Nat) : (speedsM n B T m bo ru ro j).id = (B j).id := by rw [y2w]; exact (y4z n B T m bo ru ro j).same.1
def StepR (E : List Nat) (w0 : World) (x : Nat) (c : Wc) (n t : Nat) (la st : Int) (B : Nat → Bd) (M : List (Int × Bx)) (e : Ending) (w' : World) : Prop :=
 e = .returned (.tuple #[]) ∧ ∃ g a cap D,WW E w0 x g c a n cap t la (st + 1) (stepW c B n M) (hangM (stepW c B n M) M n) D w' ∧ SlArg a n cap ∧ Room w' a n cap ∧ Tied a g
theorem y80 (w0 : World) (x g : Nat) (c : Wc) (a : Option Addr) (n cap t : Nat) (la st : Int) (B : Nat → Bd) (M : List (Int × Bx)) (D : List Nat) (w : World) (hn : n ≤ 60) (h : WW E w0 x g c a n cap t la st B M D w) (hr : Rises B n) (hid : ∀ j,In64S (B j).id) (hsl : SlArg a n cap) (hst : 0 ≤ st) (hst' : st ≤ 1000000) :
  Calls Tryz.prog 13 #[.pointer (some (Y x 0))] w (StepR E w0 x c n t la st B M) := by
 have HW : Hid (WW E w0 x g c a n cap t la st B M D w ∧ n ≤ 60 ∧ Rises B n ∧ (∀ j,In64S (B j).id) ∧ SlArg a n cap) := ⟨h,hn,hr,hid,hsl⟩;have HST : Hid (0 ≤ st ∧ st ≤ 1000000) := ⟨hst,hst'⟩;clear h hn hr hid hsl hst hst';have hmf := hmfT;go_enter Tryz.func13,Tryz.ntmps13
 go_wp2_with fail
 refine (y8h x g c a n cap t la st B w HW.out.2.1 HW.out.1.wa HW.out.1.own (fun _ => HW.out.1.xg)).mono ?_;rintro e w1 ⟨rfl,hE⟩;have HSTEP : Hid (∀ ts,ts = tchL (mapTo (driveB c) B n) n (pairsM M) → stepW c B n M = placesX n (mapTo moveB (speedsM n (mapTo (driveB c) B n) (fun j => ts.getD j tc0) ts.length c.bo c.ru c.ro) n) (fun j => ts.getD j tc0) ts.length) := fun ts e => by rw [e]; rfl
 obtain ⟨B1,hB1⟩ : ∃ B1,B1 = mapTo (driveB c) B n := ⟨_,rfl⟩;rw [← hB1] at hE HSTEP;have HI1 : Hid (∀ j,(B1 j).id = (B j).id) := fun j => by rw [hB1]; exact y2m (y47 c) B n j
 have H1 : Hid (WW E w0 x g c a n cap t la st B1 M D w1) := HW.out.1.each hE;have HG1 : Hid (g < w1.heap.size ∧ x < w1.heap.size) := ⟨Nat.lt_of_lt_of_le HW.out.1.glt hE.only.size,Nat.lt_of_lt_of_le HW.out.1.wa.lt hE.only.size⟩;clear hE hB1 hmf;go_wp2_with fail
 refine (y52 w0 x g c a n cap t la st B1 M D w1 HW.out.2.1 H1.out (HW.out.2.2.1.congr HI1.out)).mono ?_;rintro e w2 ⟨v,rfl,hT⟩;obtain ⟨ts,hts⟩ : ∃ ts,ts = tchL B1 n (pairsM M) := ⟨_,rfl⟩;rw [← hts] at hT;have HTS := HSTEP.out ts hts;have HI2 : Hid (∀ j,In64S (B1 j).id) := fun j => by rw [HI1.out]; exact HW.out.2.2.2.1 j
 obtain ⟨b,d,rfl,htc,hbn⟩ := hT.sl.touches (by rw [hts]; exact yfh HI2.out);have HTC : Hid (TouchesAt w2 b ts.length (fun j => ts.getD j tc0) ∧ (∀ g o s,b = some ⟨g,o,s⟩ → w1.heap.size ≤ g ∧ g < w2.heap.size)) := ⟨htc,fun g o s e => ⟨hT.new g (hbn g o s e).1,(hbn g o s e).2⟩⟩
 have HN : Hid (n ≤ 60 ∧ ts.length ≤ 3600) := ⟨HW.out.2.1,by
  rw [hts];refine Nat.le_trans (y4w B1 n _) (Nat.le_trans (y85 M) ?_)
  exact Nat.mul_le_mul H1.out.tree.small H1.out.tree.small⟩
 have H2 : Hid (WW E w0 x g c a n cap t la st B1 M D w2) := H1.out.keep hT.only;have HAL : Hid (Alone n B1 ∧ ∀ j,j < n → In64S (B1 j).id) := ⟨(HW.out.2.2.1.congr HI1.out).alone,fun j _ => HI2.out j⟩;have HSL : Hid (SlArg a n cap) := HW.out.2.2.2.2;obtain ⟨T,hTT⟩ : ∃ T : Nat → Tc,T = fun j => ts.getD j tc0 := ⟨_,rfl⟩;obtain ⟨m,hm⟩ : ∃ m,m = ts.length := ⟨_,rfl⟩;rw [← hTT,← hm] at HTS HTC;rw [← hm] at HN;have HSW : Hid (stepW c B n M = placesX n (mapTo moveB (speedsM n B1 T m c.bo c.ru c.ro) n) T m) := HTS;rw [← hm];clear hT hts htc hbn H1 HSTEP HTS hTT hm;go_upto_region 2 with fail
 have HS7 : Hid (w2.drew.cell? (Y x 7) = some (.slice a n cap)) := (H2.out.wa.only (Only.refl [] w2).drew (by simp)).off 7;have HK : Hid (∀ w',Only [x] w2 w' → w'.cell? (Y x 3) = some (I c.bo) ∧ w'.cell? (Y x 4) = some (I c.ru) ∧ w'.cell? (Y x 5) = some (I c.ro) → Only [x] w2 w' ∧ w'.cell? (Y x 3) = some (I c.bo) ∧ w'.cell? (Y x 4) = some (I c.ru) ∧ w'.cell? (Y x 5) = some (I c.ro)) := fun w' o l => ⟨o,l⟩;refine wp_region_held_drew (S := (fun w' => Only [x] w2 w' ∧ Zc w' x 3 c.bo ∧ Zc w' x 4 c.ru ∧ Zc w' x 5 c.ro)) (by kernel_rfl) ?_ (fun hJ1 => ?_)
 ·exact HK.out _ (Only.refl [x] w2).drew (y5t (H2.out.wa.only (Only.refl [] w2).drew (by simp)))
 refine tkU 0 (h:=tkU 1 (h:=tkU 2 (h:=tkV 3 ?_)));try simp only [zP]
 refine tkU 5 (h:=tkU 6 (h:=tkU 7 (h:=tkV 8 ?_)));try simp only [zP]
 refine tkU 9 (h:=tkV 10 ?_);try simp only [zP]
 refine rdW 4 rfl fun K hK => ?_;have l7 := HS7.out;simp only [zQ];go_simp;clear l7;refine hK.out _ _ ?_ fun hH1 => ?_
 ·exact HK.out _ (Only.refl [x] w2).drew (y5t (H2.out.wa.only (Only.refl [] w2).drew (by simp)))
 clear hK K hJ1;try simp only [zP]
 refine rdW 11 rfl fun K hK => ?_;simp only [zQ];go_simp
 (go_at_call 47; refine (y4f a b n cap m d B1 T c.bo c.ru c.ro _ HN.out.1 HN.out.2 (H2.out.own.bodies.only (Only.refl [] w2).drew) HSL.out (HTC.out.1.only (Only.refl [] w2).drew) HAL.out.1 HAL.out.2).mono ?_; rintro e w3 ⟨a3,g3,c3,rfl,hO3,o3,hg3,hs3⟩; have H3 : Hid (OwnS w3 a3 g3 n (speedsM n B1 T m c.bo c.ru c.ro) ∧ Only [] w2 w3 ∧ w2.heap.size ≤ g3 ∧ SlArg a3 n c3) := ⟨hO3,(Only.refl [] w2).drew.trans o3,hg3,hs3⟩; clear hO3 o3 hg3 hs3)
 try go_wp2_with fail
 refine hK.out _ _ ?_ fun hH2 => ?_
 ·exact HK.out _ (H3.out.2.1.mono (by simp)) (y5t (H2.out.wa.only H3.out.2.1 (by simp)))
 clear hK K hH1;try simp only [zP]
 refine tkU 12 (h:=tkV 13 ?_);try simp only [zP]
 have f7 := (H2.out.wa.only H3.out.2.1 (by simp)).free 7;have l7 := (H2.out.wa.only H3.out.2.1 (by simp)).off 7;simp only [zR] at l7;refine rdW 14 rfl fun K hK => ?_;simp only [zQ];go_simp;clear f7 l7;refine hK.out _ _ ?_ fun hH3 => ?_
 ·exact HK.out _ ((H3.out.2.1.mono (by simp)).setCell (p := Y x 7) (Or.inl (by simp)) _) (y5t ((H2.out.wa.only H3.out.2.1 (by simp)).slice a3 n c3))
 clear hK K hH2;try simp only [zP]
 refine wpAnyH_done (by kernel_rfl) ?_ _;obtain ⟨g4,hO4,hgD,hgl,hxg,hgn,hg4⟩ := yhn H2.out H3.out.1 H3.out.2.1 H3.out.2.2.1;have H4 : Hid (WW E w0 x g4 c a3 n c3 t la st (speedsM n B1 T m c.bo c.ru c.ro) M D (w3.setCell (Y x 7) (.slice a3 n c3))) := (H2.out.keep H3.out.2.1).slice hO4 hgD hgl hxg hgn
 have HT4 : Hid (∀ g o s,b = some ⟨g,o,s⟩ → g ∉ [x] ∧ g ∉ [g4]) := fun gb o s e => by
  have h1 := HTC.out.2 gb o s e;have h2 := HG1.out;simp only [zrc];refine ⟨by omega,?_⟩;rcases hg4 with q | q <;> omega
 have H4T : Hid (TouchesAt (w3.setCell (Y x 7) (.slice a3 n c3)) b m T) := (HTC.out.1.only H3.out.2.1).onlyD ((Only.refl [x] w3).setCell (p := Y x 7) (Or.inl (by simp)) _) (fun gb o s e => (HT4.out gb o s e).1);have HS4 : Hid (SlArg a3 n c3) := H3.out.2.2.2;have HI3 : Hid (∀ j,(mapTo moveB (speedsM n B1 T m c.bo c.ru c.ro) n j).id = (B1 j).id) := fun j => by rw [y2m y7m,ya8]
 clear hH3 hO4 hgD hgl hxg hgn hg4 H2 H3 HTC HS7 HK HSL;generalize World.setCell w3 _ _ = w4 at H4 H4T ⊢;go_wp2_with fail
 refine (y9m x g4 c a3 n c3 t la st (speedsM n B1 T m c.bo c.ru c.ro) w4 HN.out.1 H4.out.wa H4.out.own (fun _ => H4.out.xg)).mono ?_;rintro e w5 ⟨rfl,hE⟩;obtain ⟨B3,hB3⟩ : ∃ B3,B3 = mapTo moveB (speedsM n B1 T m c.bo c.ru c.ro) n := ⟨_,rfl⟩;rw [← hB3] at hE HI3 HSW;have H5 : Hid (WW E w0 x g4 c a3 n c3 t la st B3 M D w5) := H4.out.each hE;have H5T : Hid (TouchesAt w5 b m T) := H4T.out.onlyD hE.only (fun gb o s e => (HT4.out gb o s e).2);have HAL3 : Hid (Alone n B3 ∧ ∀ j,j < n → In64S (B3 j).id) := ⟨fun i k hi hk e => HAL.out.1 i k hi hk (by rw [HI3.out,HI3.out] at e; exact e),fun j hj => by rw [HI3.out]; exact HAL.out.2 j hj⟩;clear hE hB3 H4 H4T;have l7 := H5.out.wa.off 7;simp only [zR] at l7;go_wp2_with fail
 refine (y5u a3 b n c3 m d B3 T w5 HN.out.1 HN.out.2 H5.out.own.bodies HS4.out H5T.out HAL3.out.1 HAL3.out.2).mono ?_;rintro e w6 ⟨a6,g6,c6,rfl,hO6,o6,hg6,hs6,hrm6,htd6⟩;clear l7;have f7 := (H5.out.wa.only o6 (by simp)).free 7;have l7 := (H5.out.wa.only o6 (by simp)).off 7;simp only [zR] at l7;go_upto_region 5 with fail
 clear f7 l7;obtain ⟨g7,hO7,hgD7,hgl7,hxg7,hgn7,htd7⟩ := yks H5.out hO6 o6 hg6 hrm6 htd6;have HTD : Hid (Tied a6 g7) := htd7;clear htd6 htd7;have H7 : Hid (WW E w0 x g7 c a6 n c6 t la st (placesX n B3 T m) M D (w6.setCell (Y x 7) (.slice a6 n c6))) := (H5.out.keep o6).slice hO7 hgD7 hgl7 hxg7 hgn7;have HS6 : Hid (SlArg a6 n c6) := hs6;have HR7 : Hid (Room (w6.setCell (Y x 7) (.slice a6 n c6)) a6 n c6) := hrm6.put x 7 _;clear hrm6;have HIC : Hid (∀ j,In64S (placesX n B3 T m j).id) := fun j => by rw [(y1z n B3 T m j).1,HI3.out]; exact HI2.out j
 clear hO6 o6 hg6 hs6 hO7 hgD7 hgl7 hxg7 hgn7 H5 H5T;generalize World.setCell w6 _ _ = w7 at H7 HR7 ⊢;generalize placesX n B3 T m = C at H7 HSW HIC;have s7 := H7.out.wa.off 7;simp only [zR] at s7;go_wp2_with fail
 clear s7;go_loopg [41] n (fun k idx wr => ∃ (i : Nat) (D' : List Nat),idx = I (i : Int) ∧ Hid (i ≤ n ∧ k = n - i) ∧ Hid (WW E w0 x g7 c a6 n c6 t la st C (hangM C M i) D' wr) ∧ Hid (Room wr a6 n c6))
 case atStart => exact ⟨0,D,rfl,⟨by omega,rfl⟩,H7,HR7⟩
 case round =>
  clear H7 HR7;obtain ⟨i,D',rfl,H8,HR,HRM⟩ := hrel;have hn := HN.out.1;by_cases hi : i < n
  ·have hil : (i : Int) < (n : Int) := by omega
   obtain ⟨ha,hO⟩ : a6 = some (Y g7 0) ∧ OwnB wr g7 n C := by
    rcases HR.out.own with q | q
    ·omega
    ·exact q
   subst ha;obtain ⟨q,hq⟩ : ∃ q,C i = q := ⟨_,rfl⟩;have hc := hO.range hi hq;have HQ : Hid (C i = q ∧ In64 q.id) := ⟨hq,by rw [← hq]; exact HIC.out i⟩;clear hO hq;go_upto_region 8 with (first | (refine wpList_load_mid rfl 45 (.tmp 43) rfl g7 (i * 17) rfl [I q.id,I q.ow,I q.kd,I q.sx,I q.sy,I q.sz,I q.ax,I q.ay,I q.az,I q.vx,I q.vy,I q.vz,I q.px,I q.py,I q.pz,I q.ms,I q.tm] _ (range17 hc) Tryz.underlying45 rfl bodySize ?_))
   clear hc;have H9 : Hid (WW E w0 x g7 c (some (Y g7 0)) n c6 t la st C (hangM C M i) D' (wr.alloc (.cells (bdA q) 45)) ∧ BodyAt (wr.alloc (.cells (bdA q) 45)) wr.heap.size q ∧ Only [] wr (wr.alloc (.cells (bdA q) 45))) := ⟨HR.out.keep ((Only.refl [] wr).alloc _),(MapKept.heap_alloc wr _).1,(Only.refl [] wr).alloc _⟩;revert H9;generalize wr.heap.size = kb;generalize World.alloc wr _ = w9;intro H9;have hc := H9.out.2.1.range;go_wp2_with (first | (refine wpList_load_mid rfl 45 (.tmp 4) rfl kb 0 rfl [I q.id,I q.ow,I q.kd,I q.sx,I q.sy,I q.sz,I q.ax,I q.ay,I q.az,I q.vx,I q.vy,I q.vz,I q.px,I q.py,I q.pz,I q.ms,I q.tm] _ (range17 hc) Tryz.underlying45 rfl bodySize ?_))
   refine (y8f w0 x g7 c (some (Y g7 0)) n c6 t la st C (hangM C M i) D' q w9 H9.out.1 HQ.out.2).mono ?_;rintro e w10 ⟨rfl,D2,hW,o10,_⟩;have HR10 : Hid (Room w10 (some (Y g7 0)) n c6) := (HRM.out.only H9.out.2.2 (fun _ _ _ _ => by simp)).only o10 (fun g' o' s' e => by injection e with e; injection e with e1; rw [← e1]; exact H9.out.1.gD);clear o10;have H10 : Hid (WW E w0 x g7 c (some (Y g7 0)) n c6 t la st C (hangM C M (i + 1)) D2 w10) := by show WW E w0 x g7 c _ n c6 t la st C (putM (hangM C M i) (C i).id (boxB (C i))) D2 w10; rw [HQ.out.1]; exact hW
   clear hW hc H9;go_wp2_with fail
   go_roundg (n - (i + 1))
   case measure => have := H8.out.2; omega
   case rel => exact ⟨i + 1,D2,by go_num,⟨by omega,rfl⟩,H10,HR10⟩
  ·have hil : ¬ (i : Int) < (n : Int) := by omega
   obtain rfl : i = n := by have := H8.out.1; omega
   have l10 := HR.out.wa.off 10;have f10 := HR.out.wa.free 10;have hs0 := HST.out.1;have hs1 := HST.out.2;simp only [zR] at l10;go_wp2_with fail
   refine bodyPost_end (results_none rfl _ _ _) rfl ?_;refine ⟨rfl,g7,a6,c6,D',?_,HS6.out,HRM.out.put x 10 _,HTD.out⟩;rw [HSW.out];exact HR.out.steps HR.out.xg _
def AllO (w : World) (g o : Nat) (q : Bd) : Prop := w.cell? ⟨g,o,none⟩ = some (J U q.id) ∧ w.cell? ⟨g,o + 1,none⟩ = some (J U q.ow) ∧ w.cell? ⟨g,o + 2,none⟩ = some (J U q.kd) ∧ w.cell? ⟨g,o + 3,none⟩ = some (J U q.sx) ∧ w.cell? ⟨g,o + 4,none⟩ = some (J U q.sy) ∧ w.cell? ⟨g,o + 5,none⟩ = some (J U q.sz) ∧ w.cell? ⟨g,o + 6,none⟩ = some (J U q.ax) ∧ w.cell? ⟨g,o + 7,none⟩ = some (J U q.ay) ∧ w.cell? ⟨g,o + 8,none⟩ = some (J U q.az) ∧ w.cell? ⟨g,o + 9,none⟩ = some (J U q.vx) ∧ w.cell? ⟨g,o + 10,none⟩ = some (J U q.vy) ∧ w.cell? ⟨g,o + 11,none⟩ = some (J U q.vz) ∧ w.cell? ⟨g,o + 12,none⟩ = some (J U q.px) ∧ w.cell? ⟨g,o + 13,none⟩ = some (J U q.py) ∧ w.cell? ⟨g,o + 14,none⟩ = some (J U q.pz) ∧ w.cell? ⟨g,o + 15,none⟩ = some (J U q.ms) ∧ w.cell? ⟨g,o + 16,none⟩ = some (J U q.tm)
theorem AllO.only (h : AllO w g o q) (k : Only [] w w') : AllO w' g o q := by
 obtain ⟨d0,d1,d2,d3,d4,d5,d6,d7,d8,d9,d10,d11,d12,d13,d14,d15,d16⟩ := h;exact ⟨y09 k d0,y09 k d1,y09 k d2,y09 k d3,y09 k d4,y09 k d5,y09 k d6,y09 k d7,y09 k d8,y09 k d9,y09 k d10,y09 k d11,y09 k d12,y09 k d13,y09 k d14,y09 k d15,y09 k d16⟩
theorem ybb (ho : op.op = .load 45 (.tmp k)) (hk : ρ (.tmp k) = .pointer (some (Y g o))) (h : AllO w g o q) : (execOp ρ op).run Tryz.prog w = .ok (.value (bdV q)) w := by
 obtain ⟨d0,d1,d2,d3,d4,d5,d6,d7,d8,d9,d10,d11,d12,d13,d14,d15,d16⟩ := h;simp only [execOp,ho,hk];go_simp <;> rfl
theorem neq_bd (ho : op.op = .binOp .neq 45 (.tmp j) (.tmp k) 45) (hj : ρ (.tmp j) = bdV q) (hk : ρ (.tmp k) = bdV q) : (execOp ρ op).run Tryz.prog w = .ok (.value (.bool false)) w := by
 simp only [execOp,ho,hj,hk,bdV];go_simp <;> rfl
end Go.Proofs.YtbenlgandjjopaaGreatDoor
