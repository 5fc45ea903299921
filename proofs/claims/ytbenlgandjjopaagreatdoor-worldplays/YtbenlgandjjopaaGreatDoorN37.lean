/- . -/
import Derived.Test.YtbenlgandjjopaaGreatDoorN36
import Derived.Test.YtbenlgandjjopaaGreatDoorN34
open List renaming getElem?_toArray → zqg
open List renaming mem_cons → zrd
namespace Go.Proofs.YtbenlgandjjopaaGreatDoor
set_option maxRecDepth 100000
set_option maxHeartbeats 4000000
open Go.ChangeShapes Go.WideShapes Go.ChangeAt Go.RowKit
set_option linter.unusedVariables false
set_option linter.unusedSimpArgs false
variable {n g cap k t x r b base g' g2 cap' cap2 n2 : Nat} {w w' wr : World} {la st y z m la2 st2 : Int} {a a' a2 : Option Addr} {c : Wc} {B C B2 : Nat → Bd} {D E E' : List Nat} {q : Bd} {v : Value} {xs : List Int}
theorem NumsAt.only (h : NumsAt base w v xs) (o : Only [] w w') : NumsAt base w' v xs := by
 obtain ⟨h1,h2 | ⟨g,cap,cur,rfl,hb,hg,hn,hc,hs,ht⟩⟩ := h
 ·exact ⟨h1,Or.inl h2⟩
 ·exact ⟨h1,Or.inr ⟨g,cap,cur,rfl,hb,(o.block g (Array.getElem?_eq_some_iff.1 hg).1 (by simp)).trans hg,hn,hc,hs,ht⟩⟩
theorem DgW.only' {kb : Nat} (h : DgW w base kb q v xs wr) (o : Only [] wr w') : DgW w base kb q v xs w' :=
 ⟨h.only.trans o,h.nums.only o,h.body.only o,h.size.1,Nat.le_trans h.size.2 o.size⟩
theorem VecsAt.only (h : VecsAt w k q) (o : Only [] w w') : VecsAt w' k q := (o.block k (Array.getElem?_eq_some_iff.1 h).1 (by simp)).trans h
theorem y4s {x : Int} (h : Row3 b x y z w) : ∀ j u,([x,y,z].map (Value.int .i64))[j]? = some u → w.cell? ((Y b 0).add j) = some u := fun j u hj => by
 have e : (Y b 0).add j = (Y b j) := by unfold Addr.add; split <;> simp_all
 rw [e]
 match j,hj with
 | 0,hj => rw [h.1]; exact hj
 | 1,hj => rw [h.2.1]; exact hj
 | 2,hj => rw [h.2.2]; exact hj
 | k + 3,hj => simp at hj
theorem ye4 (w : World) (l : List Int) (t : TypeId) : ∀ j u,(l.map (Value.int .i64))[j]? = some u → (w.alloc (.cells (l.map (Value.int .i64)).toArray t)).cell? ((Y w.heap.size 0).add j) = some u := fun j u hj => by
 have e : (Y w.heap.size 0).add j = (Y w.heap.size j) := by unfold Addr.add; split <;> simp_all
 have h := (MapKept.heap_alloc w (.cells (l.map (Value.int .i64)).toArray t)).1;rw [e];simp only [World.cell?,h,Option.isSome_none,Bool.false_eq_true,if_false,zqg];exact hj
theorem y0y {ops : Array Oper} {rest : List Oper} {o : Oper} {a : Act} {Q : Exit → Act → World → Prop} (hgd : o.guard = none) (s x : Operand) (t : TypeId) (ho : o.op = .call { callee := .builtin .append,args := #[s,x],argTypes := #[t,t] }) {u v' : Value} (hs : a.eval s = v) (hx : a.eval x = u)
  (hr : (Builtin.append_ #[t,t] o.type #[v,u]).run Tryz.prog w = .ok v' w') (h : wpList Tryz.prog ops Q rest (a.put o.dst v') w') : wpList Tryz.prog ops Q (o :: rest) a w :=
 wpList_plain hgd fun _ hK => y0z ho hs hx hr (hK _ _ h)
theorem y8a (x : Nat) (c : Wc) (a : Option Addr) (n cap : Nat) (la st : Int) (B : Nat → Bd) (w : World) (hn : n ≤ 60) (hw : RwAt w x c a n cap la st) (hb : BodiesAt w a n B) :
  Calls Tryz.prog 26 #[.pointer (some (Y x 0))] w fun e w' => e = .returned (I (digF (digB B n))) ∧ Only [] w w' := by
 have HB : Hid (RwAt w x c a n cap la st ∧ BodiesAt w a n B ∧ n ≤ 60) := ⟨hw,hb,hn⟩;have s7 := hw.off 7;simp only [zR] at s7;clear hw hb hn;go_enter Tryz.func26,Tryz.ntmps26
 go_wp2_with fail
 clear s7;go_loopg [3,16] n (fun k dv idx wr => ∃ i : Nat,dv = .int .u64 (digB B i) ∧ idx = I (i : Int) ∧ Hid (i ≤ n ∧ k = n - i) ∧ Hid (Only [] w wr))
 case atStart => exact ⟨0,rfl,rfl,⟨by omega,rfl⟩,Only.refl _ _⟩
 case round =>
  obtain ⟨i,rfl,rfl,H1,HO⟩ := hrel;have hn := HB.out.2.2;by_cases hi : i < n
  ·have hil : (i : Int) < (n : Int) := by omega
   obtain ⟨g,f,rfl,hc⟩ := (HB.out.2.1.only HO.out) i hi;obtain ⟨q,hq⟩ : ∃ q,B i = q := ⟨_,rfl⟩;obtain ⟨d0,hd0⟩ : ∃ d0,digB B i = d0 := ⟨_,rfl⟩;have HC : Hid (digB B (i + 1) = digL d0 (numL q)) := by rw [← hq,← hd0]; exact rfl
   rw [hq] at hc;rw [hd0];clear hq hd0;go_upto_region 5 with (first | (refine wpList_load_mid rfl 45 (.tmp 18) rfl g (f + i * 17) rfl [I q.id,I q.ow,I q.kd,I q.sx,I q.sy,I q.sz,I q.ax,I q.ay,I q.az,I q.vx,I q.vy,I q.vz,I q.px,I q.py,I q.pz,I q.ms,I q.tm] _ (range17 hc) Tryz.underlying45 rfl bodySize ?_))
   clear hc;have H9 : Hid (Only [] w (wr.alloc (.cells (bdA q) 45)) ∧ BodyAt (wr.alloc (.cells (bdA q) 45)) wr.heap.size q) := ⟨HO.out.trans ((Only.refl [] wr).alloc _),(MapKept.heap_alloc wr _).1⟩;revert H9;generalize wr.heap.size = kb;generalize World.alloc wr _ = w9;intro H9;have e0 := H9.out.2.off 0; have e1 := H9.out.2.off 1; have e2 := H9.out.2.off 2;simp only [zR] at e0 e1 e2;have D0 : DgW w w9.heap.size kb q (.slice none 0 0) [] (w9.alloc (.cells #[I q.id,I q.ow,I q.kd] 3)) := ⟨H9.out.1.trans ((Only.refl [] w9).alloc _),World.ownsRow_nil _ _ _ _,H9.out.2.only ((Only.refl [] w9).alloc _),H9.out.1.size,((Only.refl [] w9).alloc (.cells #[I q.id,I q.ow,I q.kd] 3)).size⟩;obtain ⟨v1,w10,hr1,hd1,_⟩ := D0.more [q.id,q.ow,q.kd] (Y w9.heap.size 0) 3 3 rfl (ye4 w9 [q.id,q.ow,q.kd] 3) (by simp);obtain ⟨a1,c1,hs1,_⟩ := hd1.nums.shape;have hs3 : v1 = .slice a1 3 c1 := hs1;clear hs1;subst hs3;have H10 : Hid (DgW w w9.heap.size kb q (.slice a1 3 c1) [q.id,q.ow,q.kd] w10) := hd1;clear hd1 D0;go_upto_region 7 with (first | (at_builtin; refine y0y rfl (.tmp 20) (.tmp 28) 58 rfl rfl rfl hr1 ?_))
   clear hr1 e0 e1 e2 H9;generalize w9.heap.size = base at H10;have e3 := H10.out.body.off 3; have e4 := H10.out.body.off 4; have e5 := H10.out.body.off 5; have e6 := H10.out.body.off 6; have e7 := H10.out.body.off 7; have e8 := H10.out.body.off 8; have e9 := H10.out.body.off 9; have e10 := H10.out.body.off 10; have e11 := H10.out.body.off 11; have e12 := H10.out.body.off 12; have e13 := H10.out.body.off 13; have e14 := H10.out.body.off 14;simp only [zR] at e3 e4 e5 e6 e7 e8 e9 e10 e11 e12 e13 e14;go_wp2_with fail
   clear e3 e4 e5 e6 e7 e8 e9 e10 e11 e12 e13 e14;have H11 : Hid (DgW w base kb q (.slice a1 3 c1) [q.id,q.ow,q.kd] (w10.alloc (.cells #[I q.sx,I q.sy,I q.sz,I q.ax,I q.ay,I q.az,I q.vx,I q.vy,I q.vz,I q.px,I q.py,I q.pz] 23)) ∧ VecsAt (w10.alloc (.cells #[I q.sx,I q.sy,I q.sz,I q.ax,I q.ay,I q.az,I q.vx,I q.vy,I q.vz,I q.px,I q.py,I q.pz] 23)) w10.heap.size q) := ⟨H10.out.only' ((Only.refl [] w10).alloc _),(MapKept.heap_alloc w10 _).1⟩;revert H11;generalize w10.heap.size = kv;generalize World.alloc w10 _ = w11;intro H11;clear H10;go_loopg [6,41] 4 (fun m lv idx wz => ∃ (j : Nat) (z : Int) (av : Option Addr) (ln cv : Nat),lv = .slice av ln cv ∧ idx = I z ∧ Hid (m = 4 - j) ∧ ((j = 0 ∧ z = 0 ∧ ln = 3) ∨ (j = 1 ∧ z = 1 ∧ ln = 6) ∨ (j = 2 ∧ z = 2 ∧ ln = 9) ∨ (j = 3 ∧ z = 3 ∧ ln = 12) ∨ (j = 4 ∧ z = 4 ∧ ln = 15)) ∧ Hid (DgW w base kb q (.slice av ln cv) ((numL q).take (3 + 3 * j)) wz ∧ VecsAt wz kv q))
   case atStart => exact ⟨0,0,a1,3,c1,rfl,rfl,rfl,Or.inl ⟨rfl,rfl,rfl⟩,H11⟩
   case round =>
    obtain ⟨j,z,av,ln,cv,rfl,rfl,HM,hjz,HG⟩ := hrel;rcases hjz with ⟨rfl,rfl,rfl⟩ | ⟨rfl,rfl,rfl⟩ | ⟨rfl,rfl,rfl⟩ | ⟨rfl,rfl,rfl⟩ | ⟨rfl,rfl,rfl⟩
    ·have c0 := HG.out.2.off 0; have c1 := HG.out.2.off 1; have c2 := HG.out.2.off 2
     simp only [zR] at c0 c1 c2;go_upto_region 10 with fail
     clear c0 c1 c2;have H12 : Hid (DgW w base kb q (.slice av 3 cv) ((numL q).take (3 + 3 * 0)) (wr.alloc (.cells #[I q.sx,I q.sy,I q.sz] 23)) ∧ VecsAt (wr.alloc (.cells #[I q.sx,I q.sy,I q.sz] 23)) kv q ∧ VA (wr.alloc (.cells #[I q.sx,I q.sy,I q.sz] 23)) wr.heap.size q.sx q.sy q.sz) := ⟨HG.out.1.only' ((Only.refl [] wr).alloc _),HG.out.2.only ((Only.refl [] wr).alloc _),(MapKept.heap_alloc wr _).1⟩;revert H12;generalize wr.heap.size = k8;generalize World.alloc wr _ = w12;intro H12;have e0 := H12.out.2.2.off 0; have e1 := H12.out.2.2.off 1; have e2 := H12.out.2.2.off 2;simp only [zR] at e0 e1 e2;go_wp2_with fail
     refine (y0g _ _ _ _).mono ?_;rintro e w13 ⟨bp,rfl,k13,hrow⟩;have D13 := H12.out.1.only' (Only.of_kept k13);obtain ⟨v2,w14,hr2,hd2,hv2⟩ := D13.more [q.sx,q.sy,q.sz] (Y bp 0) 3 3 rfl (y4s hrow) (by simp [numL]);have hd4 : DgW w base kb q v2 ((numL q).take (3 + 3 * 1)) w14 := hd2;obtain ⟨a2,c2,hs2,_⟩ := hd4.nums.shape;have hs3 : v2 = .slice a2 6 c2 := hs2;clear hs2 hd2;subst hs3;have H14 : Hid (DgW w base kb q (.slice a2 6 c2) ((numL q).take (3 + 3 * 1)) w14 ∧ VecsAt w14 kv q) := ⟨hd4,hv2 kv (H12.out.2.1.only (Only.of_kept k13))⟩;clear e0 e1 e2 D13 hd4 hv2 hrow k13 H12;go_wp2_with (first | (at_builtin; refine y0y rfl (.tmp 45) (.tmp 47) 58 rfl rfl rfl hr2 ?_))
     go_roundg (4 - 1)
     case measure => have := HM.out; omega
     case rel => exact ⟨1,1,a2,6,c2,rfl,by go_num,rfl,by simp,H14⟩
    ·have c0 := HG.out.2.off 3; have c1 := HG.out.2.off 4; have c2 := HG.out.2.off 5
     simp only [zR] at c0 c1 c2;go_upto_region 10 with fail
     clear c0 c1 c2;have H12 : Hid (DgW w base kb q (.slice av 6 cv) ((numL q).take (3 + 3 * 1)) (wr.alloc (.cells #[I q.ax,I q.ay,I q.az] 23)) ∧ VecsAt (wr.alloc (.cells #[I q.ax,I q.ay,I q.az] 23)) kv q ∧ VA (wr.alloc (.cells #[I q.ax,I q.ay,I q.az] 23)) wr.heap.size q.ax q.ay q.az) := ⟨HG.out.1.only' ((Only.refl [] wr).alloc _),HG.out.2.only ((Only.refl [] wr).alloc _),(MapKept.heap_alloc wr _).1⟩;revert H12;generalize wr.heap.size = k8;generalize World.alloc wr _ = w12;intro H12;have e0 := H12.out.2.2.off 0; have e1 := H12.out.2.2.off 1; have e2 := H12.out.2.2.off 2;simp only [zR] at e0 e1 e2;go_wp2_with fail
     refine (y0g _ _ _ _).mono ?_;rintro e w13 ⟨bp,rfl,k13,hrow⟩;have D13 := H12.out.1.only' (Only.of_kept k13);obtain ⟨v2,w14,hr2,hd2,hv2⟩ := D13.more [q.ax,q.ay,q.az] (Y bp 0) 3 3 rfl (y4s hrow) (by simp [numL]);have hd4 : DgW w base kb q v2 ((numL q).take (3 + 3 * 2)) w14 := hd2;obtain ⟨a2,c2,hs2,_⟩ := hd4.nums.shape;have hs3 : v2 = .slice a2 9 c2 := hs2;clear hs2 hd2;subst hs3;have H14 : Hid (DgW w base kb q (.slice a2 9 c2) ((numL q).take (3 + 3 * 2)) w14 ∧ VecsAt w14 kv q) := ⟨hd4,hv2 kv (H12.out.2.1.only (Only.of_kept k13))⟩;clear e0 e1 e2 D13 hd4 hv2 hrow k13 H12;go_wp2_with (first | (at_builtin; refine y0y rfl (.tmp 45) (.tmp 47) 58 rfl rfl rfl hr2 ?_))
     go_roundg (4 - 2)
     case measure => have := HM.out; omega
     case rel => exact ⟨2,2,a2,9,c2,rfl,by go_num,rfl,by simp,H14⟩
    ·have c0 := HG.out.2.off 6; have c1 := HG.out.2.off 7; have c2 := HG.out.2.off 8
     simp only [zR] at c0 c1 c2;go_upto_region 10 with fail
     clear c0 c1 c2;have H12 : Hid (DgW w base kb q (.slice av 9 cv) ((numL q).take (3 + 3 * 2)) (wr.alloc (.cells #[I q.vx,I q.vy,I q.vz] 23)) ∧ VecsAt (wr.alloc (.cells #[I q.vx,I q.vy,I q.vz] 23)) kv q ∧ VA (wr.alloc (.cells #[I q.vx,I q.vy,I q.vz] 23)) wr.heap.size q.vx q.vy q.vz) := ⟨HG.out.1.only' ((Only.refl [] wr).alloc _),HG.out.2.only ((Only.refl [] wr).alloc _),(MapKept.heap_alloc wr _).1⟩;revert H12;generalize wr.heap.size = k8;generalize World.alloc wr _ = w12;intro H12;have e0 := H12.out.2.2.off 0; have e1 := H12.out.2.2.off 1; have e2 := H12.out.2.2.off 2;simp only [zR] at e0 e1 e2;go_wp2_with fail
     refine (y0g _ _ _ _).mono ?_;rintro e w13 ⟨bp,rfl,k13,hrow⟩;have D13 := H12.out.1.only' (Only.of_kept k13);obtain ⟨v2,w14,hr2,hd2,hv2⟩ := D13.more [q.vx,q.vy,q.vz] (Y bp 0) 3 3 rfl (y4s hrow) (by simp [numL]);have hd4 : DgW w base kb q v2 ((numL q).take (3 + 3 * 3)) w14 := hd2;obtain ⟨a2,c2,hs2,_⟩ := hd4.nums.shape;have hs3 : v2 = .slice a2 12 c2 := hs2;clear hs2 hd2;subst hs3;have H14 : Hid (DgW w base kb q (.slice a2 12 c2) ((numL q).take (3 + 3 * 3)) w14 ∧ VecsAt w14 kv q) := ⟨hd4,hv2 kv (H12.out.2.1.only (Only.of_kept k13))⟩;clear e0 e1 e2 D13 hd4 hv2 hrow k13 H12;go_wp2_with (first | (at_builtin; refine y0y rfl (.tmp 45) (.tmp 47) 58 rfl rfl rfl hr2 ?_))
     go_roundg (4 - 3)
     case measure => have := HM.out; omega
     case rel => exact ⟨3,3,a2,12,c2,rfl,by go_num,rfl,by simp,H14⟩
    ·have c0 := HG.out.2.off 9; have c1 := HG.out.2.off 10; have c2 := HG.out.2.off 11
     simp only [zR] at c0 c1 c2;go_upto_region 10 with fail
     clear c0 c1 c2;have H12 : Hid (DgW w base kb q (.slice av 12 cv) ((numL q).take (3 + 3 * 3)) (wr.alloc (.cells #[I q.px,I q.py,I q.pz] 23)) ∧ VecsAt (wr.alloc (.cells #[I q.px,I q.py,I q.pz] 23)) kv q ∧ VA (wr.alloc (.cells #[I q.px,I q.py,I q.pz] 23)) wr.heap.size q.px q.py q.pz) := ⟨HG.out.1.only' ((Only.refl [] wr).alloc _),HG.out.2.only ((Only.refl [] wr).alloc _),(MapKept.heap_alloc wr _).1⟩;revert H12;generalize wr.heap.size = k8;generalize World.alloc wr _ = w12;intro H12;have e0 := H12.out.2.2.off 0; have e1 := H12.out.2.2.off 1; have e2 := H12.out.2.2.off 2;simp only [zR] at e0 e1 e2;go_wp2_with fail
     refine (y0g _ _ _ _).mono ?_;rintro e w13 ⟨bp,rfl,k13,hrow⟩;have D13 := H12.out.1.only' (Only.of_kept k13);obtain ⟨v2,w14,hr2,hd2,hv2⟩ := D13.more [q.px,q.py,q.pz] (Y bp 0) 3 3 rfl (y4s hrow) (by simp [numL]);have hd4 : DgW w base kb q v2 ((numL q).take (3 + 3 * 4)) w14 := hd2;obtain ⟨a2,c2,hs2,_⟩ := hd4.nums.shape;have hs3 : v2 = .slice a2 15 c2 := hs2;clear hs2 hd2;subst hs3;have H14 : Hid (DgW w base kb q (.slice a2 15 c2) ((numL q).take (3 + 3 * 4)) w14 ∧ VecsAt w14 kv q) := ⟨hd4,hv2 kv (H12.out.2.1.only (Only.of_kept k13))⟩;clear e0 e1 e2 D13 hd4 hv2 hrow k13 H12;go_wp2_with (first | (at_builtin; refine y0y rfl (.tmp 45) (.tmp 47) 58 rfl rfl rfl hr2 ?_))
     go_roundg (4 - 4)
     case measure => have := HM.out; omega
     case rel => exact ⟨4,4,a2,15,c2,rfl,by go_num,rfl,by simp,H14⟩
    ·have e15 := HG.out.1.body.off 15; have e16 := HG.out.1.body.off 16
     simp only [zR] at e15 e16;have D15 := HG.out.1.only' ((Only.refl [] wr).alloc (.cells #[I q.ms,I q.tm] 3));obtain ⟨v2,w14,hr2,hd2,_⟩ := D15.more [q.ms,q.tm] (Y wr.heap.size 0) 2 2 rfl (ye4 wr [q.ms,q.tm] 3) (by simp [numL]);have hd3 : DgW w base kb q v2 (numL q) w14 := hd2;obtain ⟨a2,c2,hv2,hia⟩ := hd3.nums.shape;rw [y4q] at hv2;subst hv2;have H14 : Hid (Only [] w w14 ∧ IntsAt w14 a2 (numL q)) := ⟨hd3.only,hia⟩;clear hd2 hd3 hia D15;go_wp2_with (first | (at_builtin; refine y0y rfl (.tmp 50) (.tmp 55) 58 rfl rfl rfl hr2 ?_))
     clear hr2 e15 e16;go_loopg [3,59] 17 (fun m dv idx wz => ∃ j : Nat,dv = .int .u64 (digL d0 ((numL q).take j)) ∧ idx = I (j : Int) ∧ Hid (m = 17 - j ∧ j ≤ 17) ∧ wz = w14)
     case atStart => exact ⟨0,rfl,rfl,⟨rfl,by omega⟩,rfl⟩
     case round =>
      obtain ⟨j,rfl,rfl,HJ,rfl⟩ := hrel;by_cases hj : j < 17
      ·have hjl : (j : Int) < 17 := by omega
       obtain ⟨gi,rfl,hcj⟩ := H14.out.2 j (by rw [y4q]; exact hj);have hge : (numL q)[j]'(by rw [y4q]; exact hj) = (numL q).getD j 0 := by rw [List.getD_eq_getElem?_getD,List.getElem?_eq_getElem (by rw [y4q]; exact hj)]; rfl
       rw [hge] at hcj;clear hge;have HD : Hid (digL d0 ((numL q).take (j + 1)) = digS (digL d0 ((numL q).take j)) ((numL q).getD j 0)) := ydl d0 (numL q) j (by rw [y4q]; exact hj);revert HD;generalize digL d0 ((numL q).take j) = dj;generalize (numL q).getD j 0 = nj at hcj;intro HD;go_wp2_with fail
       go_roundg (17 - (j + 1))
       case measure => have := HJ.out.1; omega
       case rel => exact ⟨j + 1,by rw [HD.out]; rfl,by go_num,⟨rfl,by omega⟩,rfl⟩
      ·have hjl : ¬ (j : Int) < 17 := by omega
       obtain rfl : j = 17 := by have := HJ.out.2; omega
       go_wp2_with fail
       go_roundg (n - (i + 1))
       case measure => have := H1.out.2; omega
       case rel => exact ⟨i + 1,by rw [HC.out]; rfl,by go_num,⟨by omega,rfl⟩,H14.out.1⟩
  ·have hil : ¬ (i : Int) < (n : Int) := by omega
   obtain rfl : i = n := by have := H1.out.1; omega
   go_wp2_with fail
   go_ret
   exact ⟨rfl,HO.out⟩
structure Fine (la st : Int) (n : Nat) (B : Nat → Bd) (k : Nat) : Prop where
 n60 : n ≤ 60
 rise : Rises B n
 ids : ∀ j,In64S (B j).id
 low : ∀ j,j < n → (B j).id ≤ la
 la0 : 0 ≤ la
 la1 : la ≤ (k : Int)
 st0 : 0 ≤ st
 st1 : st ≤ (k : Int)
 sh : ∀ j,j < n → rightB (B j).kd (B j).sx (B j).sy (B j).sz = true
 ina : ∀ j,j < n → InA (B j)
 inv : ∀ j,j < n → InV (B j)
theorem clFix {x : Int} (hm : 0 ≤ m) (h : cl m x = x) : -m ≤ x ∧ x ≤ m := by rw [← h]; exact yjc hm x
theorem beyParts {x : Int} (h : beyX m x y z = false) : cl m x = x ∧ cl m y = y ∧ cl m z = z := by
 unfold beyX at h; simpa using h
theorem y89 (h : rightB q.kd q.sx q.sy q.sz = true) : Sized q := by
 unfold rightB sz at h;unfold Sized hf;by_cases h1 : q.kd = 1
 ·simp only [h1,if_true,Bool.and_eq_true,decide_eq_true_eq] at h ⊢
  omega
 ·rw [if_neg h1] at h
  split at h
  ·simp only [Bool.and_eq_true,decide_eq_true_eq] at h
   rw [if_neg h1,if_neg h1];omega
  ·cases h
theorem yib (h : rightW q = 0) : InA q ∧ InV q ∧ rightB q.kd q.sx q.sy q.sz = true := by
 unfold rightW at h;split at h
 ·rename_i hr
  split at h
  ·rename_i hh
   obtain ⟨_,_,h1,h2,_⟩ := hh;obtain ⟨a1,a2,a3⟩ := beyParts h1;obtain ⟨b1,b2,b3⟩ := beyParts h2;exact ⟨⟨clFix (by omega) a1,clFix (by omega) a2,clFix (by omega) a3⟩,⟨clFix (by omega) b1,clFix (by omega) b2,clFix (by omega) b3⟩,hr⟩
  ·cases h
 ·cases h
theorem yaq {i : Int} (h : 0 ≤ i) (k : i ≤ 10000000) : In64S i := ygn h k
theorem yhq {M : List (Int × Bx)} (hf : Fine la st n B k) (hk : k ≤ 1000) (hp : M.Perm (boxesB B n)) (q : Bd) : spawnC c B n M la q = spawnR c B n q ∧
  (spawnR c B n q = 0 → (putM M (la + 1) (boxB (numB q (la + 1)))).Perm (boxesB (upd B n (numB q (la + 1))) (n + 1)) ∧ Fine (la + 1) st (n + 1) (upd B n (numB q (la + 1))) (k + 1)) := by
 unfold spawnC spawnR;by_cases hr : rightW q = 0
 ·rw [if_pos hr,if_pos hr]
  by_cases h1 : 60 ≤ n ∨ satX B n q.ow c.qt = true
  ·rw [if_pos h1,if_pos h1]
   exact ⟨rfl,fun e => by omega⟩
  ·rw [if_neg h1,if_neg h1]
   obtain ⟨ha,hv,hs⟩ := yib hr;have hn : n < 60 := Nat.lt_of_not_le (fun e => h1 (Or.inl e));have h2 := putM_new (b := numB q (la + 1)) hp hn (fun j hj => by have := hf.low j hj; show (B j).id ≠ la + 1; omega) (y9s (q := numB q (la + 1)) ha (y89 (q := numB q (la + 1)) hs))
   have key : ∀ (P : Bd → Prop),(∀ j,j < n → P (B j)) → P (numB q (la + 1)) → ∀ j,j < n + 1 → P (upd B n (numB q (la + 1)) j) := fun P h0 h1 j hj => by
    unfold upd;split
    ·exact h1
    ·exact h0 j (by omega)
   have := hf.la0; have := hf.la1; have := hf.st1;refine ⟨h2.1,fun _ => ⟨h2.2,by omega,hf.rise.spawn (fun i hi => by have := hf.low i hi; omega),fun j => ?_,key (fun b => b.id ≤ la + 1) (fun j hj => by have := hf.low j hj; omega) (Int.le_refl _),by omega,by omega,hf.st0,by omega,key (fun b => rightB b.kd b.sx b.sy b.sz = true) hf.sh hs,key InA hf.ina ha,key InV hf.inv hv⟩⟩;unfold upd;split
   ·exact yaq (show 0 ≤ la + 1 by omega) (show la + 1 ≤ 10000000 by omega)
   ·exact hf.ids j
 ·rw [if_neg hr,if_neg hr]
  exact ⟨rfl,fun e => absurd e hr⟩
theorem Fine.more (h : Fine la st n B k) : Fine la st n B (k + 1) :=
 ⟨h.n60,h.rise,h.ids,h.low,h.la0,by have := h.la1; omega,h.st0,by have := h.st1; omega,h.sh,h.ina,h.inv⟩
theorem yai {B : Nat → Bd} {r : Nat} : ∀ {n : Nat},r < n → Alone n B → (del (boxesB B n) (B r).id).Perm (boxesB (delB B r) (n - 1))
 | 0,h,_ => absurd h (by omega)
 | n + 1,h,ha => by
  have hd : ∀ m,m ≤ r → boxesB (delB B r) m = boxesB B m := fun m hm => y1w (fun j hj => by unfold delB; rw [if_pos (by omega)]);by_cases e : r = n
  ·subst e
   have hno : (B r).id ∉ (boxesB B r).map Prod.fst := fun hm => by
    obtain ⟨j,hj,e1⟩ := y91.1 hm;have := ha j r (by omega) (by omega) e1;omega
   have h1 : del (boxesB B (r + 1)) (B r).id = boxesB B r := by
    show List.filter _ (_ :: boxesB B r) = _;rw [List.filter_cons,if_neg (by simp)];exact y4x hno
   rw [h1,Nat.add_sub_cancel,hd r (Nat.le_refl r)]
  ·have hr : r < n := by omega
   have ih := yai (n := n) hr (fun i k hi hk => ha i k (by omega) (by omega));have hne : (B n).id ≠ (B r).id := fun e1 => e (ha r n h (by omega) e1.symm)
   have h1 : del (boxesB B (n + 1)) (B r).id = ((B n).id,boxB (B n)) :: del (boxesB B n) (B r).id := by
    show List.filter _ (_ :: boxesB B n) = _;rw [List.filter_cons,if_pos (by simp [hne])];rfl
   have hn1 : n + 1 - 1 = (n - 1) + 1 := by omega
   have h2 : delB B r (n - 1) = B n := by
    unfold delB;rw [if_neg (by omega),show n - 1 + 1 = n by omega]
   rw [h1,hn1,boxesB,h2];exact List.Perm.cons _ ih
theorem y8l {M : List (Int × Bx)} (hf : Fine la st n B k) (hp : M.Perm (boxesB B n)) (hr : r < n) : (del M (B r).id).Perm (boxesB (delB B r) (n - 1)) ∧ Fine la st (n - 1) (delB B r) k := by
 refine ⟨List.Perm.trans (List.Perm.filter _ hp) (yai hr hf.rise.alone),by have := hf.n60; omega,hf.rise.del r,fun j => ?_,?_,hf.la0,hf.la1,hf.st0,hf.st1,?_,?_,?_⟩
 ·unfold delB; split <;> exact hf.ids _
 ·intro j hj; unfold delB; split
  ·exact hf.low j (by omega)
  ·exact hf.low (j + 1) (by omega)
 ·intro j hj; unfold delB; split
  ·exact hf.sh j (by omega)
  ·exact hf.sh (j + 1) (by omega)
 ·intro j hj; unfold delB; split
  ·exact hf.ina j (by omega)
  ·exact hf.ina (j + 1) (by omega)
 ·intro j hj; unfold delB; split
  ·exact hf.inv j (by omega)
  ·exact hf.inv (j + 1) (by omega)
theorem yje (hf : Fine la st n B k) (x y z : Int) : boxesB (upd B r (pushB (B r) x y z)) n = boxesB B n ∧ Fine la st n (upd B r (pushB (B r) x y z)) k := by
 have key : ∀ j,∃ b,upd B r (pushB (B r) x y z) j = b ∧ b.id = (B j).id ∧ boxB b = boxB (B j) ∧ b.kd = (B j).kd ∧ b.sx = (B j).sx ∧ b.sy = (B j).sy ∧ b.sz = (B j).sz ∧ (InA b ↔ InA (B j)) ∧ (InV b ↔ InV (B j)) := fun j => by
  unfold upd;split
  ·rename_i e
   subst e;exact ⟨_,rfl,rfl,rfl,rfl,rfl,rfl,rfl,Iff.rfl,Iff.rfl⟩
  ·exact ⟨_,rfl,rfl,rfl,rfl,rfl,rfl,rfl,Iff.rfl,Iff.rfl⟩
 have kid : ∀ j,(upd B r (pushB (B r) x y z) j).id = (B j).id := fun j => by obtain ⟨b,e,h,_⟩ := key j; rw [e]; exact h
 have hbox : ∀ m,boxesB (upd B r (pushB (B r) x y z)) m = boxesB B m := by
  intro m
  induction m with
  | zero => rfl
  | succ m ih =>
   obtain ⟨b,e,h1,h2,_⟩ := key m;show ((_ : Int),_) :: _ = _ :: _;rw [ih,e,h1,h2]
 refine ⟨hbox n,hf.n60,hf.rise.congr kid,fun j => by rw [kid]; exact hf.ids j,fun j hj => by rw [kid]; exact hf.low j hj,hf.la0,hf.la1,hf.st0,hf.st1,fun j hj => ?_,fun j hj => ?_,fun j hj => ?_⟩
 ·obtain ⟨b,e,_,_,h1,h2,h3,h4,_⟩ := key j
  rw [e,h1,h2,h3,h4]; exact hf.sh j hj
 ·obtain ⟨b,e,_,_,_,_,_,_,h1,_⟩ := key j
  rw [e]; exact h1.2 (hf.ina j hj)
 ·obtain ⟨b,e,_,_,_,_,_,_,_,h1⟩ := key j
  rw [e]; exact h1.2 (hf.inv j hj)
theorem y6g (c : Wc) (B : Nat → Bd) (n : Nat) (ts : List Tc) (j : Nat) : (stepT c B n ts j).id = (B j).id := by
 unfold stepT;rw [(y1z _ _ _ _ _).1,y2m y7m,ya8,y2m (y47 c)]
theorem yjd {M : List (Int × Bx)} (hf : Fine la st n B k) (hp : M.Perm (boxesB B n)) : stepW c B n M = stepT c B n (tchL B n (allP B n n)) ∧
  (hangM (stepW c B n M) M n).Perm (boxesB (stepT c B n (tchL B n (allP B n n))) n) ∧ Fine la (st + 1) n (stepT c B n (tchL B n (allP B n n))) (k + 1) := by
 have e : stepW c B n M = stepT c B n (tchL B n (allP B n n)) := by unfold stepW; rw [ycz,yek hf.rise hp]
 rw [e];generalize tchL B n (allP B n n) = ts
 have h1 : ∀ j,j < n → Same (B j) (stepT c B n ts j) ∧ InV (stepT c B n ts j) ∧ InA (stepT c B n ts j) := fun j hj => by
  have := ykf c B n ts hj (hf.inv j hj);exact ⟨this.1,this.2.1,this.2.2.1⟩
 have hs : ∀ j,j < n → rightB (stepT c B n ts j).kd (stepT c B n ts j).sx (stepT c B n ts j).sy (stepT c B n ts j).sz = true := fun j hj => by
  obtain ⟨_,_,s1,s2,s3,s4,_⟩ := (h1 j hj).1;rw [s1,s2,s3,s4]; exact hf.sh j hj
 refine ⟨rfl,ykb hp hf.rise.alone (fun j _ => y6g c B n ts j) (fun j hj => y9s (h1 j hj).2.2 (y89 (hs j hj))),hf.n60,hf.rise.congr (y6g c B n ts),fun j => by rw [y6g]; exact hf.ids j,fun j hj => by rw [y6g]; exact hf.low j hj,hf.la0,by have := hf.la1; omega,by have := hf.st0; omega,by have := hf.st1; omega,hs,fun j hj => (h1 j hj).2.2,fun j hj => (h1 j hj).2.1⟩
theorem WW.memX {M : List (Int × Bx)} (h : WW E w x g c a n cap t la st C M D wr) (hb : b ∈ x :: g :: D) : b ∈ E ∨ w.heap.size ≤ b := by
 rcases zrd.1 hb with e | hb
 ·rw [e]; exact h.xnew
 ·rcases zrd.1 hb with e | hb
  ·rw [e]; exact h.gnew
  ·exact h.dnew b hb
theorem WW.ltX {M : List (Int × Bx)} (h : WW E w x g c a n cap t la st C M D wr) (hb : b ∈ x :: g :: D) : b < wr.heap.size := by
 rcases zrd.1 hb with e | hb
 ·rw [e]; exact h.wa.lt
 ·rcases zrd.1 hb with e | hb
  ·rw [e]; exact h.glt
  ·exact h.tree.lt b hb
theorem WW.baseX {M : List (Int × Bx)} (h : WW E w x g c a n cap t la st C M D wr) (hE : ∀ b ∈ x :: g :: D,b ∈ E') : WW E' wr x g c a n cap t la st C M D wr :=
 ⟨h.wa,h.own,h.tree,h.xD,h.gD,h.glt,h.xg,Or.inl (hE x (by simp)),Or.inl (hE g (by simp)),fun b hb => Or.inl (hE b (by simp [hb])),Only.refl _ _⟩
theorem WW.backX {M : List (Int × Bx)} (k : WW E' wr x g c a n cap t la st C M D w') (o : Only E w wr) (hE : ∀ b ∈ E',b ∈ E ∨ w.heap.size ≤ b) : WW E w x g c a n cap t la st C M D w' := by
 have key : ∀ b,b ∈ E' ∨ wr.heap.size ≤ b → b ∈ E ∨ w.heap.size ≤ b := fun b hb => by
  rcases hb with q | q
  ·exact hE b q
  ·exact Or.inr (Nat.le_trans o.size q)
 exact ⟨k.wa,k.own,k.tree,k.xD,k.gD,k.glt,k.xg,key _ k.xnew,key _ k.gnew,fun b hb => key b (k.dnew b hb),o.then k.only (fun b hb => hE b hb)⟩
theorem RfW.backX (k : RfW E' wr x g c a n cap la st C w') (o : Only E w wr) (hE : ∀ b ∈ E',b ∈ E ∨ w.heap.size ≤ b) : RfW E w x g c a n cap la st C w' := by
 have key : ∀ b,b ∈ E' ∨ wr.heap.size ≤ b → b ∈ E ∨ w.heap.size ≤ b := fun b hb => by
  rcases hb with q | q
  ·exact hE b q
  ·exact Or.inr (Nat.le_trans o.size q)
 exact ⟨k.wa,k.own,k.glt,k.xg,key _ k.xnew,key _ k.gnew,o.then k.only (fun b hb => hE b hb),k.sl,k.nc⟩
def Pair (E : List Nat) (w : World) (x y : Nat) (c : Wc) (n : Nat) (la st : Int) (B : Nat → Bd) (M : List (Int × Bx)) (n' : Nat) (la' st' : Int) (B' : Nat → Bd) (wr : World) : Prop :=
 ∃ g a cap t D g' a' cap',WW E w x g c a n cap t la st B M D wr ∧ Room wr a n cap ∧ Tied a g ∧ RfW E w y g' c a' n' cap' la' st' B' wr ∧ ∀ b ∈ x :: g :: D,b ≠ y ∧ b ≠ g'
section
variable {E : List Nat} {w : World} {x y : Nat} {c : Wc} {n n' : Nat} {la st la' st' : Int} {B B' : Nat → Bd} {M : List (Int × Bx)} {wr w' : World}
theorem Pair.only (h : Pair E w x y c n la st B M n' la' st' B' wr) : Only E w wr := by
 obtain ⟨g,a,cap,t,D,g',a',cap',h1,_⟩ := h;exact h1.only
theorem Pair.keep (h : Pair E w x y c n la st B M n' la' st' B' wr) (o : Only [] wr w') : Pair E w x y c n la st B M n' la' st' B' w' := by
 obtain ⟨g,a,cap,t,D,g',a',cap',h1,h2,h3,h4,h5⟩ := h;exact ⟨g,a,cap,t,D,g',a',cap',h1.keep o,h2.only o (fun _ _ _ _ => by simp),h3,h4.keep o,h5⟩
theorem Pair.prog {t2 : Nat} {D2 : List Nat} {M2 : List (Int × Bx)} (h1 : WW E w x g c a n cap t la st B M D wr) (h4 : RfW E w y g' c a' n' cap' la' st' B' wr) (h5 : ∀ b ∈ x :: g :: D,b ≠ y ∧ b ≠ g')
  (k : WW (x :: g :: D) wr x g2 c a2 n2 cap2 t2 la2 st2 B2 M2 D2 w') (hrm : Room w' a2 n2 cap2) (htd : Tied a2 g2) : Pair E w x y c n2 la2 st2 B2 M2 n' la' st' B' w' := by
 refine ⟨g2,a2,cap2,t2,D2,g',a',cap',k.backX h1.only (fun b hb => h1.memX hb),hrm,htd,?_,fun b hb => ?_⟩
 ·exact ⟨h4.wa.only k.only (fun hm => (h5 y hm).1 rfl),h4.own.onlyN k.only (fun _ hm => (h5 g' hm).2 rfl),Nat.lt_of_lt_of_le h4.glt k.only.size,h4.xg,h4.xnew,h4.gnew,h4.only.then k.only (fun b hb => h1.memX hb),h4.sl,h4.nc⟩
 ·rcases k.memX hb with q | q
  ·exact h5 b q
  ·have := h4.wa.lt; have := h4.glt
   exact ⟨by omega,by omega⟩
theorem Pair.refd (h1 : WW E w x g c a n cap t la st B M D wr) (h2 : Room wr a n cap) (h3 : Tied a g) (h4 : RfW E w y g' c a' n' cap' la' st' B' wr) (h5 : ∀ b ∈ x :: g :: D,b ≠ y ∧ b ≠ g')
  (k : RfW [y,g'] wr y g2 c a2 n2 cap2 la2 st2 B2 w') : Pair E w x y c n la st B M n2 la2 st2 B2 w' := by
 have hno : ∀ b ∈ x :: g :: D,b ∉ [y,g'] := fun b hb => by simp [(h5 b hb).1,(h5 b hb).2]
 have hE : ∀ b ∈ [y,g'],b ∈ E ∨ w.heap.size ≤ b := fun b hb => by
  simp only [zrd,List.not_mem_nil,or_false] at hb;rcases hb with rfl | rfl
  ·exact h4.xnew
  ·exact h4.gnew
 refine ⟨g,a,cap,t,D,g2,a2,cap2,?_,h2.only k.only (fun q o s e => by rw [h3 q o s e]; exact hno g (by simp)),h3,k.backX h4.only hE,fun b hb => ⟨(h5 b hb).1,fun e => ?_⟩⟩
 ·exact ⟨h1.wa.only k.only (hno x (by simp)),h1.own.onlyN k.only (fun _ => hno g (by simp)),h1.tree.only k.only (fun b hb => hno b (by simp [hb])),h1.xD,h1.gD,Nat.lt_of_lt_of_le h1.glt k.only.size,h1.xg,h1.xnew,h1.gnew,h1.dnew,h1.only.then k.only hE⟩
 ·subst e
  rcases k.gnew with q | q
  ·exact hno _ hb q
  ·have := h1.ltX hb; omega
theorem RfW.baseX (h : RfW E w y g c a n cap la st B wr) : RfW [y,g] wr y g c a n cap la st B wr :=
 ⟨h.wa,h.own,h.glt,h.xg,Or.inl (by simp),Or.inl (by simp),Only.refl _ _,h.sl,h.nc⟩
theorem Pair.round (h : Pair E w x y c n la st B M n' la' st' B' wr) (o : Obj) : ∃ E',Pair E' (wr.alloc o) x y c n la st B M n' la' st' B' (wr.alloc o) ∧ (∀ b ∈ E',b ∈ E ∨ w.heap.size ≤ b) ∧ wr.heap.size ∉ E' := by
 have hk := h.keep ((Only.refl [] wr).alloc o);obtain ⟨g,a,cap,t,D,g',a',cap',h1,h2,h3,h4,h5⟩ := h;have oo : Only [] wr (wr.alloc o) := (Only.refl [] wr).alloc o;refine ⟨y :: g' :: x :: g :: D,⟨g,a,cap,t,D,g',a',cap',(h1.keep oo).baseX (fun b hb => List.mem_cons_of_mem _ (List.mem_cons_of_mem _ hb)),h2.only oo (fun _ _ _ _ => by simp),h3,?_,h5⟩,fun b hb => ?_,fun hb => ?_⟩
 ·have k := h4.keep oo
  exact ⟨k.wa,k.own,k.glt,k.xg,Or.inl (by simp),Or.inl (by simp),Only.refl _ _,k.sl,k.nc⟩
 ·rcases zrd.1 hb with e | hb
  ·rw [e]; exact h4.xnew
  ·rcases zrd.1 hb with e | hb
   ·rw [e]; exact h4.gnew
   ·exact h1.memX hb
 ·have hy := h4.wa.lt; have hg := h4.glt
  rcases zrd.1 hb with e | hb
  ·omega
  ·rcases zrd.1 hb with e | hb
   ·omega
   ·have := h1.ltX hb; omega
theorem Pair.back {wb : World} (k : Pair E' wb x y c n la st B M n' la' st' B' w') (o : Only E w wb) (hE : ∀ b ∈ E',b ∈ E ∨ w.heap.size ≤ b) : Pair E w x y c n la st B M n' la' st' B' w' := by
 obtain ⟨g,a,cap,t,D,g',a',cap',h1,h2,h3,h4,h5⟩ := k;exact ⟨g,a,cap,t,D,g',a',cap',h1.backX o hE,h2,h3,h4.backX o hE,h5⟩
theorem y76 (h : Pair E w x y c n la st B M n' la' st' B' wr) (q : Bd) (hn : n ≤ 60) (hla : 0 ≤ la) (hla' : la ≤ 1000000) :
  Calls Tryz.prog 8 #[.pointer (some (Y x 0)),.agg (bdA q)] wr fun e w' =>
   (spawnC c B n M la q = 0 → e = .returned (.tuple #[I (la + 1),.nilIface]) ∧ Pair E w x y c (n + 1) (la + 1) st (upd B n (numB q (la + 1))) (putM M (la + 1) (boxB (numB q (la + 1)))) n' la' st' B' w') ∧
   (spawnC c B n M la q ≠ 0 → e = .returned (.tuple #[I 0,errV (spawnC c B n M la q)]) ∧ Pair E w x y c n la st B M n' la' st' B' w') := by
 obtain ⟨g,a,cap,t,D,g',a',cap',h1,h2,h3,h4,h5⟩ := h;refine (yev wr x g c a n cap t la st B M D q wr hn (h1.baseX (fun b hb => hb)) (RowB.of h1.own h2) h3 hla hla').mono ?_;rintro e w' ⟨p1,p2⟩;refine ⟨fun e0 => ?_,fun e0 => ?_⟩
 ·obtain ⟨he,g2,a2,cap2,D2,k,hr⟩ := p1 e0
  refine ⟨he,Pair.prog h1 h4 h5 k hr.room (fun g3 o s e => ?_)⟩;rcases k.own with q | q
  ·omega
  ·rw [q.1] at e; injection e with e; injection e with e1; exact e1.symm
 ·obtain ⟨he,g2,a2,cap2,D2,k,hr,htd⟩ := p2 e0
  exact ⟨he,Pair.prog h1 h4 h5 k hr.room htd⟩
theorem ydz (h : Pair E w x y c n la st B M n' la' st' B' wr) (q : Bd) (hn : n' ≤ 60) (hla : 0 ≤ la') (hla' : la' ≤ 1000000) :
  Calls Tryz.prog 7 #[.pointer (some (Y y 0)),.agg (bdA q)] wr fun e w' =>
   (spawnR c B' n' q = 0 → e = .returned (.tuple #[I (la' + 1),I 0]) ∧ Pair E w x y c n la st B M (n' + 1) (la' + 1) st' (upd B' n' (numB q (la' + 1))) w') ∧
   (spawnR c B' n' q ≠ 0 → e = .returned (.tuple #[I 0,I (spawnR c B' n' q)]) ∧ Pair E w x y c n la st B M n' la' st' B' w') := by
 obtain ⟨g,a,cap,t,D,g',a',cap',h1,h2,h3,h4,h5⟩ := h;refine (y9o wr y g' c a' n' cap' la' st' B' q wr hn h4.baseX hla hla').mono ?_;rintro e w' ⟨p1,p2⟩;refine ⟨fun e0 => ?_,fun e0 => ?_⟩
 ·obtain ⟨he,g2,a2,cap2,k⟩ := p1 e0
  exact ⟨he,Pair.refd h1 h2 h3 h4 h5 k⟩
 ·obtain ⟨he,g2,a2,cap2,k⟩ := p2 e0
  exact ⟨he,Pair.refd h1 h2 h3 h4 h5 k⟩
theorem y6d (h : Pair E w x y c n la st B M n' la' st' B' wr) (id : Int) (hn : n ≤ 60) (hid : In64 id) (hM : ∀ j,j < n → (B j).id ∈ M.map Prod.fst) (hr : Rises B n) :
  Calls Tryz.prog 9 #[.pointer (some (Y x 0)),I id] wr fun e w' =>
   (findX B id n = none → e = .returned (errV 7) ∧ Pair E w x y c n la st B M n' la' st' B' w') ∧
   (∀ r,findX B id n = some r → e = .returned (errV 0) ∧ Pair E w x y c (n - 1) la st (delB B r) (del M id) n' la' st' B' w') := by
 obtain ⟨g,a,cap,t,D,g',a',cap',h1,h2,h3,h4,h5⟩ := h;refine (ycl wr x g c a n cap t la st B M D id wr hn hid hM (h1.baseX (fun b hb => hb)) h2).mono ?_;rintro e w' ⟨r,v,hf,⟨rfl,he,k,o⟩ | ⟨rfl,he,D2,k,hrm⟩⟩
 ·rw [hf.lost hr]
  exact ⟨fun _ => ⟨he,Pair.prog h1 h4 h5 k (h2.only o (fun _ _ _ _ => by simp)) h3⟩,fun r e0 => by cases e0⟩
 ·rw [hf.found hr]
  refine ⟨fun e0 => (by cases e0),fun r' e0 => ?_⟩;injection e0 with e0
  subst e0;exact ⟨he,Pair.prog h1 h4 h5 k hrm h3⟩
theorem y64 (h : Pair E w x y c n la st B M n' la' st' B' wr) (id : Int) (hn : n' ≤ 60) :
  Calls Tryz.prog 10 #[.pointer (some (Y y 0)),I id] wr fun e w' =>
   (findX B' id n' = none → e = .returned (I 7) ∧ Pair E w x y c n la st B M n' la' st' B' w') ∧
   (∀ r,findX B' id n' = some r → e = .returned (I 0) ∧ Pair E w x y c n la st B M (n' - 1) la' st' (delB B' r) w') := by
 obtain ⟨g,a,cap,t,D,g',a',cap',h1,h2,h3,h4,h5⟩ := h;refine (y8d wr y g' c a' n' cap' la' st' B' id wr hn h4.baseX).mono ?_;rintro e w' (⟨hf,he,k⟩ | ⟨r,hf,he,g2,a2,cap2,k⟩)
 ·rw [hf]
  exact ⟨fun _ => ⟨he,Pair.refd h1 h2 h3 h4 h5 k⟩,fun r e0 => by cases e0⟩
 ·rw [hf]
  refine ⟨fun e0 => (by cases e0),fun r' e0 => ?_⟩;injection e0 with e0
  subst e0;exact ⟨he,Pair.refd h1 h2 h3 h4 h5 k⟩
def pushR (B : Nat → Bd) (n : Nat) (id v1 v2 v3 : Int) : Int := match findX B id n with
 | none => 7
 | some _ => if beyX 6553600 v1 v2 v3 = true then 2 else 0
def pushX (B : Nat → Bd) (n : Nat) (id v1 v2 v3 : Int) : Nat → Bd := match findX B id n with
 | none => B
 | some r => if beyX 6553600 v1 v2 v3 = true then B else upd B r (pushB (B r) v1 v2 v3)
theorem ygg (h : Pair E w x y c n la st B M n' la' st' B' wr) (id v1 v2 v3 : Int) (hn : n ≤ 60) (hr : Rises B n) :
  Calls Tryz.prog 11 #[.pointer (some (Y x 0)),I id,.agg #[I v1,I v2,I v3]] wr fun e w' => e = .returned (errV (pushR B n id v1 v2 v3)) ∧ Pair E w x y c n la st (pushX B n id v1 v2 v3) M n' la' st' B' w' := by
 obtain ⟨g,a,cap,t,D,g',a',cap',h1,h2,h3,h4,h5⟩ := h;refine (yhc wr x g c a n cap t la st B M D id v1 v2 v3 wr hn (h1.baseX (fun b hb => hb))).mono ?_;rintro e w' ⟨r,v,hf,⟨rfl,he,k,o⟩ | ⟨rfl,hb,he,k,o⟩ | ⟨rfl,hb,he,k,o,hz⟩⟩
 ·unfold pushR pushX; rw [hf.lost hr]
  exact ⟨he,Pair.prog h1 h4 h5 k (h2.only o (fun _ _ _ _ => by simp)) h3⟩
 ·unfold pushR pushX; rw [hf.found hr]
  simp only [hb,if_true];exact ⟨he,Pair.prog h1 h4 h5 k (h2.only o (fun _ _ _ _ => by simp)) h3⟩
 ·unfold pushR pushX; rw [hf.found hr]
  simp only [hb,Bool.false_eq_true,if_false];refine ⟨he,Pair.prog h1 h4 h5 k ?_ h3⟩;rcases h2 with q | ⟨g2,e2,q1,q2,q3⟩
  ·exact Or.inl q
  ·have := h3 g2 0 none e2
   subst this;exact Or.inr ⟨g2,e2,q1,q2,hz _ q3⟩
theorem yfj (h : Pair E w x y c n la st B M n' la' st' B' wr) (id v1 v2 v3 : Int) (hn : n' ≤ 60) :
  Calls Tryz.prog 12 #[.pointer (some (Y y 0)),I id,.agg #[I v1,I v2,I v3]] wr fun e w' => e = .returned (I (pushR B' n' id v1 v2 v3)) ∧ Pair E w x y c n la st B M n' la' st' (pushX B' n' id v1 v2 v3) w' := by
 obtain ⟨g,a,cap,t,D,g',a',cap',h1,h2,h3,h4,h5⟩ := h;refine (ybf wr y g' c a' n' cap' la' st' B' id v1 v2 v3 wr hn h4.baseX).mono ?_;rintro e w' (⟨hf,he,k⟩ | ⟨r,hf,⟨hb,he,k⟩ | ⟨hb,he,k⟩⟩)
 ·unfold pushR pushX; rw [hf]
  exact ⟨he,Pair.refd h1 h2 h3 h4 h5 k⟩
 ·unfold pushR pushX; rw [hf]
  simp only [hb,if_true];exact ⟨he,Pair.refd h1 h2 h3 h4 h5 k⟩
 ·unfold pushR pushX; rw [hf]
  simp only [hb,Bool.false_eq_true,if_false];exact ⟨he,Pair.refd h1 h2 h3 h4 h5 k⟩
theorem yg4 (h : Pair E w x y c n la st B M n' la' st' B' wr) (hn : n ≤ 60) (hr : Rises B n) (hid : ∀ j,In64S (B j).id) (hst : 0 ≤ st) (hst' : st ≤ 1000000) :
  Calls Tryz.prog 13 #[.pointer (some (Y x 0))] wr fun e w' => e = .returned (.tuple #[]) ∧ Pair E w x y c n la (st + 1) (stepW c B n M) (hangM (stepW c B n M) M n) n' la' st' B' w' := by
 obtain ⟨g,a,cap,t,D,g',a',cap',h1,h2,h3,h4,h5⟩ := h;refine (y80 wr x g c a n cap t la st B M D wr hn (h1.baseX (fun b hb => hb)) hr hid h2.fit.1 hst hst').mono ?_;rintro e w' ⟨he,g2,a2,cap2,D2,k,_,hrm,htd⟩;exact ⟨he,Pair.prog h1 h4 h5 k hrm htd⟩
theorem yf2 (h : Pair E w x y c n la st B M n' la' st' B' wr) (hn : n' ≤ 60) (hr : Rises B' n') (hid : ∀ j,In64S (B' j).id) (hs : ∀ j,j < n' → rightB (B' j).kd (B' j).sx (B' j).sy (B' j).sz = true) (hst : 0 ≤ st') (hst' : st' ≤ 1000000) :
  Calls Tryz.prog 14 #[.pointer (some (Y y 0))] wr fun e w' => e = .returned (.tuple #[]) ∧ Pair E w x y c n la st B M n' la' (st' + 1) (stepT c B' n' (tchL B' n' (allP B' n' n'))) w' := by
 obtain ⟨g,a,cap,t,D,g',a',cap',h1,h2,h3,h4,h5⟩ := h;refine (yct wr y g' c a' n' cap' la' st' B' wr hn h4.baseX hr hid hs hst hst').mono ?_;rintro e w' ⟨he,g2,a2,cap2,k⟩;exact ⟨he,Pair.refd h1 h2 h3 h4 h5 k⟩
theorem yg0 (h : Pair E w x y c n la st B M n' la' st' B' wr) (q : Bx) :
  Calls Tryz.prog 19 #[.pointer (some (Y x 0)),.agg #[I q.x0,I q.x1,I q.x2,I q.x3,I q.x4,I q.x5]] wr (QueryPost wr q M) := by
 obtain ⟨g,a,cap,t,D,g',a',cap',h1,h2,h3,h4,h5⟩ := h;exact yig w x g c a n cap t la st B M D q wr h1
theorem y9g (h : Pair E w x y c n la st B M n' la' st' B' wr) (hn : n ≤ 60) (hr : Rises B n) (hp : M.Perm (boxesB B n)) :
  Calls Tryz.prog 20 #[.pointer (some (Y x 0))] wr fun e w' => ∃ v,e = .returned v ∧ TW wr v (tchL B n (allP B n n)) w' := by
 obtain ⟨g,a,cap,t,D,g',a',cap',h1,h2,h3,h4,h5⟩ := h;rw [← yek hr hp];exact y52 w x g c a n cap t la st B M D wr hn h1 hr
theorem y9e (h : Pair E w x y c n la st B M n' la' st' B' wr) (hn : n' ≤ 60) (hr : Rises B' n') (hs : ∀ j,j < n' → rightB (B' j).kd (B' j).sx (B' j).sy (B' j).sz = true) :
  Calls Tryz.prog 21 #[.pointer (some (Y y 0))] wr fun e w' => ∃ v,e = .returned v ∧ TW wr v (tchL B' n' (allP B' n' n')) w' := by
 obtain ⟨g,a,cap,t,D,g',a',cap',h1,h2,h3,h4,h5⟩ := h;exact y3h w y g' c a' n' cap' la' st' B' wr hn h4 hr hs
theorem get_ref {id : Int} {v : Bool} (h : Rises B n) (hf : FindIs B n id r v) : bodyX B r v = refX B (findX B id n) ∧ v = (findX B id n).isSome := by
 cases v with
 | false => rw [hf.lost h]; exact ⟨rfl,rfl⟩
 | true => rw [hf.found h]; exact ⟨rfl,rfl⟩
theorem ygf (h : Pair E w x y c n la st B M n' la' st' B' wr) (id : Int) (hn : n ≤ 60) (hr : Rises B n) :
  Calls Tryz.prog 22 #[.pointer (some (Y x 0)),I id] wr fun e w' => e = .returned (.tuple #[bdV (refX B (findX B id n)),.bool (findX B id n).isSome]) ∧ Only [] wr w' := by
 obtain ⟨g,a,cap,t,D,g',a',cap',h1,h2,h3,h4,h5⟩ := h;refine (y5g x id c a n cap t la st B wr hn h1.wa h1.own.bodies).mono ?_;rintro e w' ⟨r,v,he,hf,o⟩;obtain ⟨e1,e2⟩ := get_ref hr hf;rw [e1] at he;exact ⟨by rw [he,← e2],o⟩
theorem yfw (h : Pair E w x y c n la st B M n' la' st' B' wr) (id : Int) (hn : n' ≤ 60) :
  Calls Tryz.prog 23 #[.pointer (some (Y y 0)),I id] wr fun e w' => e = .returned (.tuple #[bdV (refX B' (findX B' id n')),.bool (findX B' id n').isSome]) ∧ Only [] wr w' := by
 obtain ⟨g,a,cap,t,D,g',a',cap',h1,h2,h3,h4,h5⟩ := h;exact ycf y id c a' n' cap' la' st' B' wr hn h4.wa h4.own.bodies
theorem yd8 (h : Pair E w x y c n la st B M n' la' st' B' wr) : Calls Tryz.prog 24 #[.pointer (some (Y x 0))] wr fun e w' => e = .returned (I st) ∧ w' = wr := by
 obtain ⟨g,a,cap,t,D,g',a',cap',h1,h2,h3,h4,h5⟩ := h;exact yg1 x c a n cap t la st wr h1.wa
theorem ybn (h : Pair E w x y c n la st B M n' la' st' B' wr) (hn : n ≤ 60) : Calls Tryz.prog 25 #[.pointer (some (Y x 0))] wr fun e w' => e = .returned (I (digF (digB B n))) ∧ Only [] wr w' := by
 obtain ⟨g,a,cap,t,D,g',a',cap',h1,h2,h3,h4,h5⟩ := h;exact ydf x c a n cap t la st B wr hn h1.wa h1.own.bodies
theorem ybx (h : Pair E w x y c n la st B M n' la' st' B' wr) (hn : n' ≤ 60) : Calls Tryz.prog 26 #[.pointer (some (Y y 0))] wr fun e w' => e = .returned (I (digF (digB B' n'))) ∧ Only [] wr w' := by
 obtain ⟨g,a,cap,t,D,g',a',cap',h1,h2,h3,h4,h5⟩ := h;exact y8a y c a' n' cap' la' st' B' wr hn h4.wa h4.own.bodies
theorem ycb (h : Pair E w x y c n la st B M n' la' st' B' wr) (hn : n ≤ 60) : Calls Tryz.prog 28 #[.pointer (some (Y x 0))] wr (OwnPost n B wr) := by
 obtain ⟨g,a,cap,t,D,g',a',cap',h1,h2,h3,h4,h5⟩ := h;exact yd9 x c a n cap t la st B wr hn h1.wa h1.own.bodies h2.fit.1
theorem Pair.ref (h : Pair E w x y c n la st B M n' la' st' B' wr) : ∃ a' cap',RwAt wr y c a' n' cap' la' st' ∧ BodiesAt wr a' n' B' ∧ SlArg a' n' cap' ∧ n' ≤ cap' := by
 obtain ⟨g,a,cap,t,D,g',a',cap',h1,h2,h3,h4,h5⟩ := h;exact ⟨a',cap',h4.wa,h4.own.bodies,h4.sl,h4.nc⟩
end
structure Duo (E : List Nat) (w : World) (x y : Nat) (c : Wc) (k : Nat) (wr : World) : Prop where
 ex : ∃ n la st B M,Pair E w x y c n la st B M n la st B wr ∧ M.Perm (boxesB B n) ∧ Fine la st n B k
end Go.Proofs.YtbenlgandjjopaaGreatDoor
