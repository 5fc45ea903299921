/- . -/
import Derived.Test.YtbenlgandjjopaaGreatDoorN10
import Derived.Deep.Light
open Go.Value renaming int → J
open Go.IntKind renaming i64 → U
open Go.World renaming cell?_setCell_other → zra,frozen?_setCell → zrb
namespace Go.Proofs.YtbenlgandjjopaaGreatDoor
set_option maxRecDepth 100000
set_option maxHeartbeats 8000000
open Go.ChangeShapes Go.WideShapes Go.ChangeAt Go.RowKit
set_option linter.unusedVariables false
set_option linter.unusedSimpArgs false
variable {w w' : World} {b r : Nat} {a : Int}
def bodyX (B : Nat → Bd) (r : Nat) (v : Bool) : Bd := if v = true then B r else bd0
theorem y5g (x : Nat) (id : Int) (c : Wc) (a : Option Addr) (n cap t : Nat) (la st : Int) (B : Nat → Bd) (w : World) (hn : n ≤ 60) (hw : WorldAt w x c a n cap t la st) (hb : BodiesAt w a n B) :
  Calls Tryz.prog 22 #[.pointer (some (Y x 0)),I id] w fun e w' => ∃ (r : Nat) (v : Bool),e = .returned (.tuple #[bdV (bodyX B r v),.bool v]) ∧ FindIs B n id r v ∧ Only [] w w' := by
 have HB : Hid (WorldAt w x c a n cap t la st ∧ BodiesAt w a n B ∧ n ≤ 60) := ⟨hw,hb,hn⟩;clear hw hb hn;go_enter Tryz.func22,Tryz.ntmps22
 go_upto_region 1 with fail
 have H0 : Hid ((w.alloc (.cells #[I 0,I 0,I 0,I 0,I 0,I 0,I 0,I 0,I 0,I 0,I 0,I 0,I 0,I 0,I 0,I 0,I 0] 45)).heap[w.heap.size]? = some (.cells #[I 0,I 0,I 0,I 0,I 0,I 0,I 0,I 0,I 0,I 0,I 0,I 0,I 0,I 0,I 0,I 0,I 0] 45) ∧ Only [] w (w.alloc (.cells #[I 0,I 0,I 0,I 0,I 0,I 0,I 0,I 0,I 0,I 0,I 0,I 0,I 0,I 0,I 0,I 0,I 0] 45))) := ⟨(MapKept.heap_alloc w _).1,(Only.refl [] w).alloc _⟩;have HK0 : Hid (w.heap.size ≤ w.heap.size) := Nat.le_refl _;revert H0 HK0;generalize hkr : w.heap.size = kr;have HK : Hid (w.heap.size ≤ kr) := Nat.le_of_eq hkr;clear hkr;generalize World.alloc w _ = w1;intro H0 _;go_wp2_with fail
 refine (y5b x id c a n cap t la st B w1 HB.out.2.2 (HB.out.1.only H0.out.2 (by simp)) (HB.out.2.1.only H0.out.2)).mono ?_;rintro e w2 ⟨r,v,rfl,hf,o2⟩;have H2 : Hid (w2.heap[kr]? = some (.cells #[I 0,I 0,I 0,I 0,I 0,I 0,I 0,I 0,I 0,I 0,I 0,I 0,I 0,I 0,I 0,I 0,I 0] 45) ∧ Only [] w w2 ∧ FindIs B n id r v) := ⟨(o2.block kr (Array.getElem?_eq_some_iff.1 H0.out.1).1 (by simp)).trans H0.out.1,H0.out.2.trans o2,hf⟩;clear hf o2 H0
 cases v with
 | false =>
  have hcell : ∀ k,k < 17 → (w2.setCells kr 0 (bdL bd0)).cell? (Y kr k) = some (bc bd0 k) := fun k hk => by
   have h1 := World.cell?_setCells_in kr (bdL bd0) 0 w2 (fun j hj => (there17 H2.out.1 rfl j (by rw [y2y] at hj; exact hj)).1) k (by rw [y2y]; exact hk);rw [Nat.zero_add] at h1;rw [h1,← yar bd0 k hk];simp
  have HON : Hid (Only [] w (w2.setCells kr 0 (bdL bd0))) := H2.out.2.1.setCells kr (Or.inr HK.out) _ 0;have y0 := hcell 0 (by omega);have y1 := hcell 1 (by omega);have y2 := hcell 2 (by omega);have y3 := hcell 3 (by omega);have y4 := hcell 4 (by omega);have y5 := hcell 5 (by omega);have y6 := hcell 6 (by omega);have y7 := hcell 7 (by omega);have y8 := hcell 8 (by omega);have y9 := hcell 9 (by omega);have y10 := hcell 10 (by omega);have y11 := hcell 11 (by omega);have y12 := hcell 12 (by omega);have y13 := hcell 13 (by omega);have y14 := hcell 14 (by omega);have y15 := hcell 15 (by omega);have y16 := hcell 16 (by omega);simp only [bc] at y0 y1 y2 y3 y4 y5 y6 y7 y8 y9 y10 y11 y12 y13 y14 y15 y16;clear hcell;go_wp2_with (first | (refine wpList_store_mid rfl 45 (.tmp 4) (.tmp 16) rfl kr 0 (bdL bd0).toArray rfl rfl (there17 H2.out.1 rfl) bodySize (one17 bd0) ?_))
  try simp only [List.toList_toArray]
  generalize World.setCells w2 kr 0 (bdL bd0) = w3 at y0 y1 y2 y3 y4 y5 y6 y7 y8 y9 y10 y11 y12 y13 y14 y15 y16 HON ⊢
  as_aux_lemma =>
   exact bodyPost_ret (v := .tuple #[bdV bd0,.bool false]) (by simp [results,Tryz.results22,go_sem,y0,y1,y2,y3,y4,y5,y6,y7,y8,y9,y10,y11,y12,y13,y14,y15,y16,bdV]) rfl ⟨r,false,by rfl,H2.out.2.2,HON.out⟩
 | true =>
  have hv := H2.out.2.2.2;have hr : r < n := by simp at hv; exact hv.1
  have hrl : (r : Int) < (n : Int) := by omega
  have s7 := (HB.out.1.only H2.out.2.1 (by simp)).off 7;simp only [zR] at s7;have hn := HB.out.2.2;obtain ⟨g,o,rfl,hc⟩ := (HB.out.2.1.only H2.out.2.1) r hr;have HBR : Hid (bodyX B r true = B r) := rfl;generalize B r = q at hc HBR;clear hv
  have hcell : ∀ k,k < 17 → (w2.setCells kr 0 (bdL q)).cell? (Y kr k) = some (bc q k) := fun k hk => by
   have h1 := World.cell?_setCells_in kr (bdL q) 0 w2 (fun j hj => (there17 H2.out.1 rfl j (by rw [y2y] at hj; exact hj)).1) k (by rw [y2y]; exact hk);rw [Nat.zero_add] at h1;rw [h1,← yar q k hk];simp
  have HON : Hid (Only [] w (w2.setCells kr 0 (bdL q))) := H2.out.2.1.setCells kr (Or.inr HK.out) _ 0;have y0 := hcell 0 (by omega);have y1 := hcell 1 (by omega);have y2 := hcell 2 (by omega);have y3 := hcell 3 (by omega);have y4 := hcell 4 (by omega);have y5 := hcell 5 (by omega);have y6 := hcell 6 (by omega);have y7 := hcell 7 (by omega);have y8 := hcell 8 (by omega);have y9 := hcell 9 (by omega);have y10 := hcell 10 (by omega);have y11 := hcell 11 (by omega);have y12 := hcell 12 (by omega);have y13 := hcell 13 (by omega);have y14 := hcell 14 (by omega);have y15 := hcell 15 (by omega);have y16 := hcell 16 (by omega);simp only [bc] at y0 y1 y2 y3 y4 y5 y6 y7 y8 y9 y10 y11 y12 y13 y14 y15 y16;clear hcell;go_wp2_with (first | (refine wpList_load_mid rfl 45 (.tmp 22) rfl g (o + r * 17) rfl (bdL q) _ (range17 hc) Tryz.underlying45 rfl bodySize ?_) | (refine wpList_store_mid rfl 45 (.tmp 4) (.tmp 23) rfl kr 0 (bdL q).toArray rfl rfl (there17 H2.out.1 rfl) bodySize (one17 q) ?_))
  try simp only [List.toList_toArray]
  generalize World.setCells w2 kr 0 (bdL q) = w3 at y0 y1 y2 y3 y4 y5 y6 y7 y8 y9 y10 y11 y12 y13 y14 y15 y16 HON ⊢
  as_aux_lemma =>
   exact bodyPost_ret (v := .tuple #[bdV q,.bool true]) (by simp [results,Tryz.results22,go_sem,y0,y1,y2,y3,y4,y5,y6,y7,y8,y9,y10,y11,y12,y13,y14,y15,y16,bdV]) rfl ⟨r,true,by rw [HBR.out],H2.out.2.2,HON.out⟩
structure Ex where
 x : Int
 y : Int
 z : Int
 d : Int
variable {m c q : Ex}
def Ex.or (m c : Ex) : Ex := if c.d < m.d then c else m
theorem Ex.or_lt (h : c.d < m.d) : m.or c = c := by unfold Ex.or; rw [if_pos h]
theorem Ex.or_ge (h : ¬ c.d < m.d) : m.or c = m := by unfold Ex.or; rw [if_neg h]
theorem y54 (hm : m = q) (h : c.d < m.d) : q.or c = c := by subst hm; exact Ex.or_lt h
theorem y57 (hm : m = q) (h : ¬ c.d < m.d) : q.or c = m := by subst hm; exact Ex.or_ge h
theorem y4g (n : Int) (w : World) : Calls Tryz.prog 135 #[I n] w fun e w' => e = .returned (.bool false) ∧ w' = w := by
 have h : (n != n) = false := by simp
 go_enter Tryz.func135,Tryz.ntmps135
 go_wp2
 go_ret
 exact ⟨rfl,rfl⟩
def gcmpI (a b : Int) : Int := if a < b then -1 else if b < a then 1 else 0
theorem y7z {b : Int} (h : a < b) : decide (gcmpI a b < 0) = true := by unfold gcmpI; rw [if_pos h]; decide
theorem y8v {b : Int} (h : ¬ a < b) : decide (gcmpI a b < 0) = false := by
 unfold gcmpI; rw [if_neg h]; split <;> decide
theorem y9f (a b : Int) (w : World) : Calls Tryz.prog 93 #[I a,I b] w fun e w' => e = .returned (I (gcmpI a b)) ∧ w' = w := by
 unfold gcmpI;by_cases h : a < b
 ·rw [if_pos h]
  go_enter Tryz.func93,Tryz.ntmps93
  go_wp2_with (go_at_call 135; refine (y4g _ _).mono ?_; rintro e w1 ⟨rfl,rfl⟩)
  go_ret
  exact ⟨rfl,rfl⟩
 ·rw [if_neg h]
  by_cases h2 : b < a
  ·rw [if_pos h2]
   go_enter Tryz.func93,Tryz.ntmps93
   go_wp2_with (go_at_call 135; refine (y4g _ _).mono ?_; rintro e w1 ⟨rfl,rfl⟩)
   go_ret
   exact ⟨rfl,rfl⟩
  ·rw [if_neg h2]
   go_enter Tryz.func93,Tryz.ntmps93
   go_wp2_with (go_at_call 135; refine (y4g _ _).mono ?_; rintro e w1 ⟨rfl,rfl⟩)
   go_ret
   exact ⟨rfl,rfl⟩
theorem y1k (a b : Ex) (w : World) : Calls Tryz.prog 182 #[.agg #[I a.x,I a.y,I a.z,I a.d],.agg #[I b.x,I b.y,I b.z,I b.d]] w fun e w' => e = .returned (I (gcmpI a.d b.d)) ∧ Kept w w' := by
 go_enter Tryz.func182,Tryz.ntmps182
 go_wp2_with (go_at_call 93; refine (y9f _ _ _).mono ?_; rintro e w1 ⟨rfl,rfl⟩)
 go_ret
 exact ⟨rfl,((Kept.refl _).alloc _ _).alloc _ _⟩
theorem yfv {v0 v1 v2 v3 u0 u1 u2 u3 : Value} (h0 : w.cell? (Y b 0) = some u0) (h1 : w.cell? (Y b 1) = some u1) (h2 : w.cell? (Y b 2) = some u2) (h3 : w.cell? (Y b 3) = some u3) :
  ((((w.setCell (Y b 0) v0).setCell (Y b 1) v1).setCell (Y b 2) v2).setCell (Y b 3) v3).cell? (Y b 0) = some v0 ∧ ((((w.setCell (Y b 0) v0).setCell (Y b 1) v1).setCell (Y b 2) v2).setCell (Y b 3) v3).cell? (Y b 1) = some v1 ∧ ((((w.setCell (Y b 0) v0).setCell (Y b 1) v1).setCell (Y b 2) v2).setCell (Y b 3) v3).cell? (Y b 2) = some v2 ∧ ((((w.setCell (Y b 0) v0).setCell (Y b 1) v1).setCell (Y b 2) v2).setCell (Y b 3) v3).cell? (Y b 3) = some v3 := by
 have n1 : ∀ i j : Nat,i ≠ j → (Y b i) ≠ (Y b j) := fun i j h e => h (by injection e);exact ⟨(zra _ _ _ _ (n1 3 0 (by decide))).trans ((zra _ _ _ _ (n1 2 0 (by decide))).trans ((zra _ _ _ _ (n1 1 0 (by decide))).trans (World.cell?_setCell_same _ _ _ (h0)))),(zra _ _ _ _ (n1 3 1 (by decide))).trans ((zra _ _ _ _ (n1 2 1 (by decide))).trans (World.cell?_setCell_same _ _ _ ((zra _ _ _ _ (n1 0 1 (by decide))).trans (h1)))),(zra _ _ _ _ (n1 3 2 (by decide))).trans (World.cell?_setCell_same _ _ _ ((zra _ _ _ _ (n1 1 2 (by decide))).trans ((zra _ _ _ _ (n1 0 2 (by decide))).trans (h2)))),World.cell?_setCell_same _ _ _ ((zra _ _ _ _ (n1 2 3 (by decide))).trans ((zra _ _ _ _ (n1 1 3 (by decide))).trans ((zra _ _ _ _ (n1 0 3 (by decide))).trans (h3))))⟩
theorem y31 {w1 : World} (k : Kept w w1) (h : w.heap.size ≤ b) (v0 v1 v2 v3 : Value) : Kept w ((((w1.setCell (Y b 0) v0).setCell (Y b 1) v1).setCell (Y b 2) v2).setCell (Y b 3) v3) :=
 ((((k.setCell (p := Y b 0) h v0).setCell (p := Y b 1) h v1).setCell (p := Y b 2) h v2).setCell (p := Y b 3) h v3)
def Six (b : Nat) (e0 e1 e2 e3 e4 e5 : Ex) (w : World) : Prop :=
 w.cell? ⟨b,0,none⟩ = some (J U e0.x) ∧ w.cell? ⟨b,1,none⟩ = some (J U e0.y) ∧ w.cell? ⟨b,2,none⟩ = some (J U e0.z) ∧ w.cell? ⟨b,3,none⟩ = some (J U e0.d) ∧ w.cell? ⟨b,4,none⟩ = some (J U e1.x) ∧ w.cell? ⟨b,5,none⟩ = some (J U e1.y) ∧ w.cell? ⟨b,6,none⟩ = some (J U e1.z) ∧ w.cell? ⟨b,7,none⟩ = some (J U e1.d) ∧ w.cell? ⟨b,8,none⟩ = some (J U e2.x) ∧ w.cell? ⟨b,9,none⟩ = some (J U e2.y) ∧ w.cell? ⟨b,10,none⟩ = some (J U e2.z) ∧ w.cell? ⟨b,11,none⟩ = some (J U e2.d) ∧ w.cell? ⟨b,12,none⟩ = some (J U e3.x) ∧ w.cell? ⟨b,13,none⟩ = some (J U e3.y) ∧ w.cell? ⟨b,14,none⟩ = some (J U e3.z) ∧ w.cell? ⟨b,15,none⟩ = some (J U e3.d) ∧ w.cell? ⟨b,16,none⟩ = some (J U e4.x) ∧ w.cell? ⟨b,17,none⟩ = some (J U e4.y) ∧ w.cell? ⟨b,18,none⟩ = some (J U e4.z) ∧ w.cell? ⟨b,19,none⟩ = some (J U e4.d) ∧ w.cell? ⟨b,20,none⟩ = some (J U e5.x) ∧ w.cell? ⟨b,21,none⟩ = some (J U e5.y) ∧ w.cell? ⟨b,22,none⟩ = some (J U e5.z) ∧ w.cell? ⟨b,23,none⟩ = some (J U e5.d)
theorem Six.step {e0 e1 e2 e3 e4 e5 : Ex} (k : Kept w w') (h : Six b e0 e1 e2 e3 e4 e5 w) : Six b e0 e1 e2 e3 e4 e5 w' := by
 obtain ⟨h0,h1,h2,h3,h4,h5,h6,h7,h8,h9,h10,h11,h12,h13,h14,h15,h16,h17,h18,h19,h20,h21,h22,h23⟩ := h;exact ⟨y00 k h0,y00 k h1,y00 k h2,y00 k h3,y00 k h4,y00 k h5,y00 k h6,y00 k h7,y00 k h8,y00 k h9,y00 k h10,y00 k h11,y00 k h12,y00 k h13,y00 k h14,y00 k h15,y00 k h16,y00 k h17,y00 k h18,y00 k h19,y00 k h20,y00 k h21,y00 k h22,y00 k h23⟩
def Best (m r : Nat) (b : Ex) (w : World) : Prop :=
 w.cell? ⟨m,0,none⟩ = some (J U b.x) ∧ w.cell? ⟨m,1,none⟩ = some (J U b.y) ∧ w.cell? ⟨m,2,none⟩ = some (J U b.z) ∧ w.cell? ⟨m,3,none⟩ = some (J U b.d) ∧ w.frozen? ⟨m,0,none⟩ = false ∧ w.frozen? ⟨m,1,none⟩ = false ∧ w.frozen? ⟨m,2,none⟩ = false ∧ w.frozen? ⟨m,3,none⟩ = false ∧ w.cell? ⟨r,0,none⟩ = some (J U 0) ∧ w.cell? ⟨r,1,none⟩ = some (J U 0) ∧ w.cell? ⟨r,2,none⟩ = some (J U 0) ∧ w.cell? ⟨r,3,none⟩ = some (J U 0) ∧ w.frozen? ⟨r,0,none⟩ = false ∧ w.frozen? ⟨r,1,none⟩ = false ∧ w.frozen? ⟨r,2,none⟩ = false ∧ w.frozen? ⟨r,3,none⟩ = false
theorem Best.step {m : Nat} {b : Ex} (k : Kept w w') (h : Best m r b w) : Best m r b w' := by
 obtain ⟨h0,h1,h2,h3,h4,h5,h6,h7,h8,h9,h10,h11,h12,h13,h14,h15⟩ := h;exact ⟨y00 k h0,y00 k h1,y00 k h2,y00 k h3,y01 k h4,y01 k h5,y01 k h6,y01 k h7,y00 k h8,y00 k h9,y00 k h10,y00 k h11,y01 k h12,y01 k h13,y01 k h14,y01 k h15⟩
theorem Best.put {m : Nat} {b : Ex} (h : Best m r b w) (hn : m ≠ r) (c : Ex) : Best m r c ((((w.setCell (Y m 0) (I c.x)).setCell (Y m 1) (I c.y)).setCell (Y m 2) (I c.z)).setCell (Y m 3) (I c.d)) := by
 have n1 : ∀ i j : Nat,(Y m i) ≠ (Y r j) := fun i j e => hn (by injection e);obtain ⟨h0,h1,h2,h3,h4,h5,h6,h7,h8,h9,h10,h11,h12,h13,h14,h15⟩ := h;obtain ⟨z0,z1,z2,z3⟩ := yfv (v0 := I c.x) (v1 := I c.y) (v2 := I c.z) (v3 := I c.d) h0 h1 h2 h3;exact ⟨z0,z1,z2,z3,(zrb _ _ _ _).trans ((zrb _ _ _ _).trans ((zrb _ _ _ _).trans ((zrb _ _ _ _).trans (h4)))),(zrb _ _ _ _).trans ((zrb _ _ _ _).trans ((zrb _ _ _ _).trans ((zrb _ _ _ _).trans (h5)))),(zrb _ _ _ _).trans ((zrb _ _ _ _).trans ((zrb _ _ _ _).trans ((zrb _ _ _ _).trans (h6)))),(zrb _ _ _ _).trans ((zrb _ _ _ _).trans ((zrb _ _ _ _).trans ((zrb _ _ _ _).trans (h7)))),(zra _ _ _ _ (n1 3 _)).trans ((zra _ _ _ _ (n1 2 _)).trans ((zra _ _ _ _ (n1 1 _)).trans ((zra _ _ _ _ (n1 0 _)).trans (h8)))),(zra _ _ _ _ (n1 3 _)).trans ((zra _ _ _ _ (n1 2 _)).trans ((zra _ _ _ _ (n1 1 _)).trans ((zra _ _ _ _ (n1 0 _)).trans (h9)))),(zra _ _ _ _ (n1 3 _)).trans ((zra _ _ _ _ (n1 2 _)).trans ((zra _ _ _ _ (n1 1 _)).trans ((zra _ _ _ _ (n1 0 _)).trans (h10)))),(zra _ _ _ _ (n1 3 _)).trans ((zra _ _ _ _ (n1 2 _)).trans ((zra _ _ _ _ (n1 1 _)).trans ((zra _ _ _ _ (n1 0 _)).trans (h11)))),(zrb _ _ _ _).trans ((zrb _ _ _ _).trans ((zrb _ _ _ _).trans ((zrb _ _ _ _).trans (h12)))),(zrb _ _ _ _).trans ((zrb _ _ _ _).trans ((zrb _ _ _ _).trans ((zrb _ _ _ _).trans (h13)))),(zrb _ _ _ _).trans ((zrb _ _ _ _).trans ((zrb _ _ _ _).trans ((zrb _ _ _ _).trans (h14)))),(zrb _ _ _ _).trans ((zrb _ _ _ _).trans ((zrb _ _ _ _).trans ((zrb _ _ _ _).trans (h15))))⟩
theorem Best.eq {m : Nat} {b b' : Ex} (h : b' = b) (H : Best m r b w) : Best m r b' w := by rw [h]; exact H
def pickE (e0 e1 e2 e3 e4 e5 : Ex) : Nat → Ex
 | 0 => e0
 | 1 => e0.or e1
 | 2 => (e0.or e1).or e2
 | 3 => ((e0.or e1).or e2).or e3
 | 4 => (((e0.or e1).or e2).or e3).or e4
 | _ => ((((e0.or e1).or e2).or e3).or e4).or e5
theorem yay (b : Nat) (e0 e1 e2 e3 e4 e5 : Ex) (w : World) (H : Six b e0 e1 e2 e3 e4 e5 w) :
  Calls Tryz.prog 181 #[.slice (some (Y b 0)) 6 6,.func (.func 182) #[] #[]] w fun e w' => e = .returned (.agg #[I ((pickE e0 e1 e2 e3 e4 e5 5).x),I ((pickE e0 e1 e2 e3 e4 e5 5).y),I ((pickE e0 e1 e2 e3 e4 e5 5).z),I ((pickE e0 e1 e2 e3 e4 e5 5).d)]) ∧ Kept w w' := by
 have HS : Hid (Six b e0 e1 e2 e3 e4 e5 w) := H;have l0 := later H.1;have l1 := later H.2.1;have l2 := later H.2.2.1;have l3 := later H.2.2.2.1;clear H;go_enter Tryz.func181,Tryz.ntmps181
 go_wp2
 clear l0 l1 l2 l3;have hn : w.heap.size + 1 ≠ w.heap.size := by omega
 go_loopg [6] 6 (fun kx s6 wr => Kept w wr ∧ ((s6 = I 1 ∧ 5 ≤ kx ∧ Best (w.heap.size + 1) w.heap.size (pickE e0 e1 e2 e3 e4 e5 0) wr) ∨ (s6 = I 2 ∧ 4 ≤ kx ∧ Best (w.heap.size + 1) w.heap.size (pickE e0 e1 e2 e3 e4 e5 1) wr) ∨ (s6 = I 3 ∧ 3 ≤ kx ∧ Best (w.heap.size + 1) w.heap.size (pickE e0 e1 e2 e3 e4 e5 2) wr) ∨ (s6 = I 4 ∧ 2 ≤ kx ∧ Best (w.heap.size + 1) w.heap.size (pickE e0 e1 e2 e3 e4 e5 3) wr) ∨ (s6 = I 5 ∧ 1 ≤ kx ∧ Best (w.heap.size + 1) w.heap.size (pickE e0 e1 e2 e3 e4 e5 4) wr) ∨ (s6 = I 6 ∧ 0 ≤ kx ∧ Best (w.heap.size + 1) w.heap.size (pickE e0 e1 e2 e3 e4 e5 5) wr)))
 case atStart => exact ⟨((Kept.refl w).alloc _ _).alloc _ _,Or.inl ⟨rfl,by omega,by refine ⟨?_,?_,?_,?_,?_,?_,?_,?_,?_,?_,?_,?_,?_,?_,?_,?_⟩ <;> (first | rfl | (go_simp <;> rfl))⟩⟩
 case round =>
  obtain ⟨hk,hrel⟩ := hrel;rcases hrel with ⟨rfl,hkx,HB⟩ | ⟨rfl,hkx,HB⟩ | ⟨rfl,hkx,HB⟩ | ⟨rfl,hkx,HB⟩ | ⟨rfl,hkx,HB⟩ | ⟨rfl,hkx,HB⟩
  ·obtain ⟨m,hm0⟩ : ∃ m,m = (pickE e0 e1 e2 e3 e4 e5 0) := ⟨_,rfl⟩
   rw [← hm0] at HB;have hm : Aside (m = (pickE e0 e1 e2 e3 e4 e5 0)) := hm0;clear hm0;obtain ⟨_,_,_,_,c0,c1,c2,c3,_⟩ := HS.out.step hk;have HB0 : Aside (Best (w.heap.size + 1) w.heap.size m wr) := HB;obtain ⟨m0,m1,m2,m3,_⟩ := HB;by_cases h : e1.d < m.d
   ·have hd := y7z h
    have HL : Aside (e1.d < m.d) := h;clear h;go_wp2
    refine wp_region_held_drew (S := (fun w' => Kept wr w' ∧ Zc w' b 4 e1.x ∧ Zc w' b 5 e1.y ∧ Zc w' b 6 e1.z ∧ Zc w' b 7 e1.d ∧ Zc w' (w.heap.size + 1) 0 m.x ∧ Zc w' (w.heap.size + 1) 1 m.y ∧ Zc w' (w.heap.size + 1) 2 m.z ∧ Zc w' (w.heap.size + 1) 3 m.d)) (by kernel_rfl) ?_ (fun hJ1 => ?_)
    ·exact ⟨kd,y00 kd c0,y00 kd c1,y00 kd c2,y00 kd c3,y00 kd m0,y00 kd m1,y00 kd m2,y00 kd m3⟩
    refine tkU 0 (h:=tkU 1 (h:=tkU 2 (h:=tkV 3 ?_)));try simp only [zP]
    refine tkU 4 (h:=tkV 5 ?_);try simp only [zP]
    refine rdW 6 rfl fun K hK => ?_;simp only [zQ];go_simp
    (go_at_call 182; refine (y1k e1 m _).mono ?_; rintro e w1 ⟨rfl,k1⟩)
    try go_wp2_with fail
    refine hK.out _ _ ?_ fun hJ2 => ?_
    ·exact ⟨hJ1.1.trans k1,y00 k1 hJ1.2.1,y00 k1 hJ1.2.2.1,y00 k1 hJ1.2.2.2.1,y00 k1 hJ1.2.2.2.2.1,y00 k1 hJ1.2.2.2.2.2.1,y00 k1 hJ1.2.2.2.2.2.2.1,y00 k1 hJ1.2.2.2.2.2.2.2.1,y00 k1 hJ1.2.2.2.2.2.2.2.2⟩
    clear hK K hJ1;try simp only [zP]
    refine tkV 7 ?_;try simp only [zP]
    refine wpAnyH_done (by kernel_rfl) ?_ _;have HB1 := HB0.out.step hJ2.1;obtain ⟨kk,c0,c1,c2,c3,m0,m1,m2,m3⟩ := hJ2;have HB2 : Aside (Best (w.heap.size + 1) w.heap.size m w1) := HB1;obtain ⟨_,_,_,_,f0,f1,f2,f3,_⟩ := HB1;go_wp2
    go_roundg 4
    case measure => omega
    case rel => exact ⟨y31 (hk.trans kk) (by omega) _ _ _ _,Or.inr (Or.inl ⟨rfl,by omega,Best.eq (b' := (pickE e0 e1 e2 e3 e4 e5 1)) (y54 (q := (pickE e0 e1 e2 e3 e4 e5 0)) hm.out HL.out) (HB2.out.put hn e1)⟩)⟩
   ·have hd := y8v h
    have HL : Aside (¬ e1.d < m.d) := h;clear h;go_wp2
    refine wp_region_held_drew (S := (fun w' => Kept wr w' ∧ Zc w' b 4 e1.x ∧ Zc w' b 5 e1.y ∧ Zc w' b 6 e1.z ∧ Zc w' b 7 e1.d ∧ Zc w' (w.heap.size + 1) 0 m.x ∧ Zc w' (w.heap.size + 1) 1 m.y ∧ Zc w' (w.heap.size + 1) 2 m.z ∧ Zc w' (w.heap.size + 1) 3 m.d)) (by kernel_rfl) ?_ (fun hJ1 => ?_)
    ·exact ⟨kd,y00 kd c0,y00 kd c1,y00 kd c2,y00 kd c3,y00 kd m0,y00 kd m1,y00 kd m2,y00 kd m3⟩
    refine tkU 0 (h:=tkU 1 (h:=tkU 2 (h:=tkV 3 ?_)));try simp only [zP]
    refine tkU 4 (h:=tkV 5 ?_);try simp only [zP]
    refine rdW 6 rfl fun K hK => ?_;simp only [zQ];go_simp
    (go_at_call 182; refine (y1k e1 m _).mono ?_; rintro e w1 ⟨rfl,k1⟩)
    try go_wp2_with fail
    refine hK.out _ _ ?_ fun hJ2 => ?_
    ·exact ⟨hJ1.1.trans k1,y00 k1 hJ1.2.1,y00 k1 hJ1.2.2.1,y00 k1 hJ1.2.2.2.1,y00 k1 hJ1.2.2.2.2.1,y00 k1 hJ1.2.2.2.2.2.1,y00 k1 hJ1.2.2.2.2.2.2.1,y00 k1 hJ1.2.2.2.2.2.2.2.1,y00 k1 hJ1.2.2.2.2.2.2.2.2⟩
    clear hK K hJ1;try simp only [zP]
    refine tkV 7 ?_;try simp only [zP]
    refine wpAnyH_done (by kernel_rfl) ?_ _;have HB1 := HB0.out.step hJ2.1;have kk := hJ2.1;clear hJ2;go_wp2
    go_roundg 4
    case measure => omega
    case rel => exact ⟨hk.trans kk,Or.inr (Or.inl ⟨rfl,by omega,Best.eq (b' := (pickE e0 e1 e2 e3 e4 e5 1)) (y57 (q := (pickE e0 e1 e2 e3 e4 e5 0)) hm.out (by have := HL.out; omega)) HB1⟩)⟩
  ·obtain ⟨m,hm0⟩ : ∃ m,m = (pickE e0 e1 e2 e3 e4 e5 1) := ⟨_,rfl⟩
   rw [← hm0] at HB;have hm : Aside (m = (pickE e0 e1 e2 e3 e4 e5 1)) := hm0;clear hm0;obtain ⟨_,_,_,_,_,_,_,_,c0,c1,c2,c3,_⟩ := HS.out.step hk;have HB0 : Aside (Best (w.heap.size + 1) w.heap.size m wr) := HB;obtain ⟨m0,m1,m2,m3,_⟩ := HB;by_cases h : e2.d < m.d
   ·have hd := y7z h
    have HL : Aside (e2.d < m.d) := h;clear h;go_wp2
    refine wp_region_held_drew (S := (fun w' => Kept wr w' ∧ Zc w' b 8 e2.x ∧ Zc w' b 9 e2.y ∧ Zc w' b 10 e2.z ∧ Zc w' b 11 e2.d ∧ Zc w' (w.heap.size + 1) 0 m.x ∧ Zc w' (w.heap.size + 1) 1 m.y ∧ Zc w' (w.heap.size + 1) 2 m.z ∧ Zc w' (w.heap.size + 1) 3 m.d)) (by kernel_rfl) ?_ (fun hJ1 => ?_)
    ·exact ⟨kd,y00 kd c0,y00 kd c1,y00 kd c2,y00 kd c3,y00 kd m0,y00 kd m1,y00 kd m2,y00 kd m3⟩
    refine tkU 0 (h:=tkU 1 (h:=tkU 2 (h:=tkV 3 ?_)));try simp only [zP]
    refine tkU 4 (h:=tkV 5 ?_);try simp only [zP]
    refine rdW 6 rfl fun K hK => ?_;simp only [zQ];go_simp
    (go_at_call 182; refine (y1k e2 m _).mono ?_; rintro e w1 ⟨rfl,k1⟩)
    try go_wp2_with fail
    refine hK.out _ _ ?_ fun hJ2 => ?_
    ·exact ⟨hJ1.1.trans k1,y00 k1 hJ1.2.1,y00 k1 hJ1.2.2.1,y00 k1 hJ1.2.2.2.1,y00 k1 hJ1.2.2.2.2.1,y00 k1 hJ1.2.2.2.2.2.1,y00 k1 hJ1.2.2.2.2.2.2.1,y00 k1 hJ1.2.2.2.2.2.2.2.1,y00 k1 hJ1.2.2.2.2.2.2.2.2⟩
    clear hK K hJ1;try simp only [zP]
    refine tkV 7 ?_;try simp only [zP]
    refine wpAnyH_done (by kernel_rfl) ?_ _;have HB1 := HB0.out.step hJ2.1;obtain ⟨kk,c0,c1,c2,c3,m0,m1,m2,m3⟩ := hJ2;have HB2 : Aside (Best (w.heap.size + 1) w.heap.size m w1) := HB1;obtain ⟨_,_,_,_,f0,f1,f2,f3,_⟩ := HB1;go_wp2
    go_roundg 3
    case measure => omega
    case rel => exact ⟨y31 (hk.trans kk) (by omega) _ _ _ _,Or.inr (Or.inr (Or.inl ⟨rfl,by omega,Best.eq (b' := (pickE e0 e1 e2 e3 e4 e5 2)) (y54 (q := (pickE e0 e1 e2 e3 e4 e5 1)) hm.out HL.out) (HB2.out.put hn e2)⟩))⟩
   ·have hd := y8v h
    have HL : Aside (¬ e2.d < m.d) := h;clear h;go_wp2
    refine wp_region_held_drew (S := (fun w' => Kept wr w' ∧ Zc w' b 8 e2.x ∧ Zc w' b 9 e2.y ∧ Zc w' b 10 e2.z ∧ Zc w' b 11 e2.d ∧ Zc w' (w.heap.size + 1) 0 m.x ∧ Zc w' (w.heap.size + 1) 1 m.y ∧ Zc w' (w.heap.size + 1) 2 m.z ∧ Zc w' (w.heap.size + 1) 3 m.d)) (by kernel_rfl) ?_ (fun hJ1 => ?_)
    ·exact ⟨kd,y00 kd c0,y00 kd c1,y00 kd c2,y00 kd c3,y00 kd m0,y00 kd m1,y00 kd m2,y00 kd m3⟩
    refine tkU 0 (h:=tkU 1 (h:=tkU 2 (h:=tkV 3 ?_)));try simp only [zP]
    refine tkU 4 (h:=tkV 5 ?_);try simp only [zP]
    refine rdW 6 rfl fun K hK => ?_;simp only [zQ];go_simp
    (go_at_call 182; refine (y1k e2 m _).mono ?_; rintro e w1 ⟨rfl,k1⟩)
    try go_wp2_with fail
    refine hK.out _ _ ?_ fun hJ2 => ?_
    ·exact ⟨hJ1.1.trans k1,y00 k1 hJ1.2.1,y00 k1 hJ1.2.2.1,y00 k1 hJ1.2.2.2.1,y00 k1 hJ1.2.2.2.2.1,y00 k1 hJ1.2.2.2.2.2.1,y00 k1 hJ1.2.2.2.2.2.2.1,y00 k1 hJ1.2.2.2.2.2.2.2.1,y00 k1 hJ1.2.2.2.2.2.2.2.2⟩
    clear hK K hJ1;try simp only [zP]
    refine tkV 7 ?_;try simp only [zP]
    refine wpAnyH_done (by kernel_rfl) ?_ _;have HB1 := HB0.out.step hJ2.1;have kk := hJ2.1;clear hJ2;go_wp2
    go_roundg 3
    case measure => omega
    case rel => exact ⟨hk.trans kk,Or.inr (Or.inr (Or.inl ⟨rfl,by omega,Best.eq (b' := (pickE e0 e1 e2 e3 e4 e5 2)) (y57 (q := (pickE e0 e1 e2 e3 e4 e5 1)) hm.out (by have := HL.out; omega)) HB1⟩))⟩
  ·obtain ⟨m,hm0⟩ : ∃ m,m = (pickE e0 e1 e2 e3 e4 e5 2) := ⟨_,rfl⟩
   rw [← hm0] at HB;have hm : Aside (m = (pickE e0 e1 e2 e3 e4 e5 2)) := hm0;clear hm0;obtain ⟨_,_,_,_,_,_,_,_,_,_,_,_,c0,c1,c2,c3,_⟩ := HS.out.step hk;have HB0 : Aside (Best (w.heap.size + 1) w.heap.size m wr) := HB;obtain ⟨m0,m1,m2,m3,_⟩ := HB;by_cases h : e3.d < m.d
   ·have hd := y7z h
    have HL : Aside (e3.d < m.d) := h;clear h;go_wp2
    refine wp_region_held_drew (S := (fun w' => Kept wr w' ∧ Zc w' b 12 e3.x ∧ Zc w' b 13 e3.y ∧ Zc w' b 14 e3.z ∧ Zc w' b 15 e3.d ∧ Zc w' (w.heap.size + 1) 0 m.x ∧ Zc w' (w.heap.size + 1) 1 m.y ∧ Zc w' (w.heap.size + 1) 2 m.z ∧ Zc w' (w.heap.size + 1) 3 m.d)) (by kernel_rfl) ?_ (fun hJ1 => ?_)
    ·exact ⟨kd,y00 kd c0,y00 kd c1,y00 kd c2,y00 kd c3,y00 kd m0,y00 kd m1,y00 kd m2,y00 kd m3⟩
    refine tkU 0 (h:=tkU 1 (h:=tkU 2 (h:=tkV 3 ?_)));try simp only [zP]
    refine tkU 4 (h:=tkV 5 ?_);try simp only [zP]
    refine rdW 6 rfl fun K hK => ?_;simp only [zQ];go_simp
    (go_at_call 182; refine (y1k e3 m _).mono ?_; rintro e w1 ⟨rfl,k1⟩)
    try go_wp2_with fail
    refine hK.out _ _ ?_ fun hJ2 => ?_
    ·exact ⟨hJ1.1.trans k1,y00 k1 hJ1.2.1,y00 k1 hJ1.2.2.1,y00 k1 hJ1.2.2.2.1,y00 k1 hJ1.2.2.2.2.1,y00 k1 hJ1.2.2.2.2.2.1,y00 k1 hJ1.2.2.2.2.2.2.1,y00 k1 hJ1.2.2.2.2.2.2.2.1,y00 k1 hJ1.2.2.2.2.2.2.2.2⟩
    clear hK K hJ1;try simp only [zP]
    refine tkV 7 ?_;try simp only [zP]
    refine wpAnyH_done (by kernel_rfl) ?_ _;have HB1 := HB0.out.step hJ2.1;obtain ⟨kk,c0,c1,c2,c3,m0,m1,m2,m3⟩ := hJ2;have HB2 : Aside (Best (w.heap.size + 1) w.heap.size m w1) := HB1;obtain ⟨_,_,_,_,f0,f1,f2,f3,_⟩ := HB1;go_wp2
    go_roundg 2
    case measure => omega
    case rel => exact ⟨y31 (hk.trans kk) (by omega) _ _ _ _,Or.inr (Or.inr (Or.inr (Or.inl ⟨rfl,by omega,Best.eq (b' := (pickE e0 e1 e2 e3 e4 e5 3)) (y54 (q := (pickE e0 e1 e2 e3 e4 e5 2)) hm.out HL.out) (HB2.out.put hn e3)⟩)))⟩
   ·have hd := y8v h
    have HL : Aside (¬ e3.d < m.d) := h;clear h;go_wp2
    refine wp_region_held_drew (S := (fun w' => Kept wr w' ∧ Zc w' b 12 e3.x ∧ Zc w' b 13 e3.y ∧ Zc w' b 14 e3.z ∧ Zc w' b 15 e3.d ∧ Zc w' (w.heap.size + 1) 0 m.x ∧ Zc w' (w.heap.size + 1) 1 m.y ∧ Zc w' (w.heap.size + 1) 2 m.z ∧ Zc w' (w.heap.size + 1) 3 m.d)) (by kernel_rfl) ?_ (fun hJ1 => ?_)
    ·exact ⟨kd,y00 kd c0,y00 kd c1,y00 kd c2,y00 kd c3,y00 kd m0,y00 kd m1,y00 kd m2,y00 kd m3⟩
    refine tkU 0 (h:=tkU 1 (h:=tkU 2 (h:=tkV 3 ?_)));try simp only [zP]
    refine tkU 4 (h:=tkV 5 ?_);try simp only [zP]
    refine rdW 6 rfl fun K hK => ?_;simp only [zQ];go_simp
    (go_at_call 182; refine (y1k e3 m _).mono ?_; rintro e w1 ⟨rfl,k1⟩)
    try go_wp2_with fail
    refine hK.out _ _ ?_ fun hJ2 => ?_
    ·exact ⟨hJ1.1.trans k1,y00 k1 hJ1.2.1,y00 k1 hJ1.2.2.1,y00 k1 hJ1.2.2.2.1,y00 k1 hJ1.2.2.2.2.1,y00 k1 hJ1.2.2.2.2.2.1,y00 k1 hJ1.2.2.2.2.2.2.1,y00 k1 hJ1.2.2.2.2.2.2.2.1,y00 k1 hJ1.2.2.2.2.2.2.2.2⟩
    clear hK K hJ1;try simp only [zP]
    refine tkV 7 ?_;try simp only [zP]
    refine wpAnyH_done (by kernel_rfl) ?_ _;have HB1 := HB0.out.step hJ2.1;have kk := hJ2.1;clear hJ2;go_wp2
    go_roundg 2
    case measure => omega
    case rel => exact ⟨hk.trans kk,Or.inr (Or.inr (Or.inr (Or.inl ⟨rfl,by omega,Best.eq (b' := (pickE e0 e1 e2 e3 e4 e5 3)) (y57 (q := (pickE e0 e1 e2 e3 e4 e5 2)) hm.out (by have := HL.out; omega)) HB1⟩)))⟩
  ·obtain ⟨m,hm0⟩ : ∃ m,m = (pickE e0 e1 e2 e3 e4 e5 3) := ⟨_,rfl⟩
   rw [← hm0] at HB;have hm : Aside (m = (pickE e0 e1 e2 e3 e4 e5 3)) := hm0;clear hm0;obtain ⟨_,_,_,_,_,_,_,_,_,_,_,_,_,_,_,_,c0,c1,c2,c3,_⟩ := HS.out.step hk;have HB0 : Aside (Best (w.heap.size + 1) w.heap.size m wr) := HB;obtain ⟨m0,m1,m2,m3,_⟩ := HB;by_cases h : e4.d < m.d
   ·have hd := y7z h
    have HL : Aside (e4.d < m.d) := h;clear h;go_wp2
    refine wp_region_held_drew (S := (fun w' => Kept wr w' ∧ Zc w' b 16 e4.x ∧ Zc w' b 17 e4.y ∧ Zc w' b 18 e4.z ∧ Zc w' b 19 e4.d ∧ Zc w' (w.heap.size + 1) 0 m.x ∧ Zc w' (w.heap.size + 1) 1 m.y ∧ Zc w' (w.heap.size + 1) 2 m.z ∧ Zc w' (w.heap.size + 1) 3 m.d)) (by kernel_rfl) ?_ (fun hJ1 => ?_)
    ·exact ⟨kd,y00 kd c0,y00 kd c1,y00 kd c2,y00 kd c3,y00 kd m0,y00 kd m1,y00 kd m2,y00 kd m3⟩
    refine tkU 0 (h:=tkU 1 (h:=tkU 2 (h:=tkV 3 ?_)));try simp only [zP]
    refine tkU 4 (h:=tkV 5 ?_);try simp only [zP]
    refine rdW 6 rfl fun K hK => ?_;simp only [zQ];go_simp
    (go_at_call 182; refine (y1k e4 m _).mono ?_; rintro e w1 ⟨rfl,k1⟩)
    try go_wp2_with fail
    refine hK.out _ _ ?_ fun hJ2 => ?_
    ·exact ⟨hJ1.1.trans k1,y00 k1 hJ1.2.1,y00 k1 hJ1.2.2.1,y00 k1 hJ1.2.2.2.1,y00 k1 hJ1.2.2.2.2.1,y00 k1 hJ1.2.2.2.2.2.1,y00 k1 hJ1.2.2.2.2.2.2.1,y00 k1 hJ1.2.2.2.2.2.2.2.1,y00 k1 hJ1.2.2.2.2.2.2.2.2⟩
    clear hK K hJ1;try simp only [zP]
    refine tkV 7 ?_;try simp only [zP]
    refine wpAnyH_done (by kernel_rfl) ?_ _;have HB1 := HB0.out.step hJ2.1;obtain ⟨kk,c0,c1,c2,c3,m0,m1,m2,m3⟩ := hJ2;have HB2 : Aside (Best (w.heap.size + 1) w.heap.size m w1) := HB1;obtain ⟨_,_,_,_,f0,f1,f2,f3,_⟩ := HB1;go_wp2
    go_roundg 1
    case measure => omega
    case rel => exact ⟨y31 (hk.trans kk) (by omega) _ _ _ _,Or.inr (Or.inr (Or.inr (Or.inr (Or.inl ⟨rfl,by omega,Best.eq (b' := (pickE e0 e1 e2 e3 e4 e5 4)) (y54 (q := (pickE e0 e1 e2 e3 e4 e5 3)) hm.out HL.out) (HB2.out.put hn e4)⟩))))⟩
   ·have hd := y8v h
    have HL : Aside (¬ e4.d < m.d) := h;clear h;go_wp2
    refine wp_region_held_drew (S := (fun w' => Kept wr w' ∧ Zc w' b 16 e4.x ∧ Zc w' b 17 e4.y ∧ Zc w' b 18 e4.z ∧ Zc w' b 19 e4.d ∧ Zc w' (w.heap.size + 1) 0 m.x ∧ Zc w' (w.heap.size + 1) 1 m.y ∧ Zc w' (w.heap.size + 1) 2 m.z ∧ Zc w' (w.heap.size + 1) 3 m.d)) (by kernel_rfl) ?_ (fun hJ1 => ?_)
    ·exact ⟨kd,y00 kd c0,y00 kd c1,y00 kd c2,y00 kd c3,y00 kd m0,y00 kd m1,y00 kd m2,y00 kd m3⟩
    refine tkU 0 (h:=tkU 1 (h:=tkU 2 (h:=tkV 3 ?_)));try simp only [zP]
    refine tkU 4 (h:=tkV 5 ?_);try simp only [zP]
    refine rdW 6 rfl fun K hK => ?_;simp only [zQ];go_simp
    (go_at_call 182; refine (y1k e4 m _).mono ?_; rintro e w1 ⟨rfl,k1⟩)
    try go_wp2_with fail
    refine hK.out _ _ ?_ fun hJ2 => ?_
    ·exact ⟨hJ1.1.trans k1,y00 k1 hJ1.2.1,y00 k1 hJ1.2.2.1,y00 k1 hJ1.2.2.2.1,y00 k1 hJ1.2.2.2.2.1,y00 k1 hJ1.2.2.2.2.2.1,y00 k1 hJ1.2.2.2.2.2.2.1,y00 k1 hJ1.2.2.2.2.2.2.2.1,y00 k1 hJ1.2.2.2.2.2.2.2.2⟩
    clear hK K hJ1;try simp only [zP]
    refine tkV 7 ?_;try simp only [zP]
    refine wpAnyH_done (by kernel_rfl) ?_ _;have HB1 := HB0.out.step hJ2.1;have kk := hJ2.1;clear hJ2;go_wp2
    go_roundg 1
    case measure => omega
    case rel => exact ⟨hk.trans kk,Or.inr (Or.inr (Or.inr (Or.inr (Or.inl ⟨rfl,by omega,Best.eq (b' := (pickE e0 e1 e2 e3 e4 e5 4)) (y57 (q := (pickE e0 e1 e2 e3 e4 e5 3)) hm.out (by have := HL.out; omega)) HB1⟩))))⟩
  ·obtain ⟨m,hm0⟩ : ∃ m,m = (pickE e0 e1 e2 e3 e4 e5 4) := ⟨_,rfl⟩
   rw [← hm0] at HB;have hm : Aside (m = (pickE e0 e1 e2 e3 e4 e5 4)) := hm0;clear hm0;obtain ⟨_,_,_,_,_,_,_,_,_,_,_,_,_,_,_,_,_,_,_,_,c0,c1,c2,c3⟩ := HS.out.step hk;have HB0 : Aside (Best (w.heap.size + 1) w.heap.size m wr) := HB;obtain ⟨m0,m1,m2,m3,_⟩ := HB;by_cases h : e5.d < m.d
   ·have hd := y7z h
    have HL : Aside (e5.d < m.d) := h;clear h;go_wp2
    refine wp_region_held_drew (S := (fun w' => Kept wr w' ∧ Zc w' b 20 e5.x ∧ Zc w' b 21 e5.y ∧ Zc w' b 22 e5.z ∧ Zc w' b 23 e5.d ∧ Zc w' (w.heap.size + 1) 0 m.x ∧ Zc w' (w.heap.size + 1) 1 m.y ∧ Zc w' (w.heap.size + 1) 2 m.z ∧ Zc w' (w.heap.size + 1) 3 m.d)) (by kernel_rfl) ?_ (fun hJ1 => ?_)
    ·exact ⟨kd,y00 kd c0,y00 kd c1,y00 kd c2,y00 kd c3,y00 kd m0,y00 kd m1,y00 kd m2,y00 kd m3⟩
    refine tkU 0 (h:=tkU 1 (h:=tkU 2 (h:=tkV 3 ?_)));try simp only [zP]
    refine tkU 4 (h:=tkV 5 ?_);try simp only [zP]
    refine rdW 6 rfl fun K hK => ?_;simp only [zQ];go_simp
    (go_at_call 182; refine (y1k e5 m _).mono ?_; rintro e w1 ⟨rfl,k1⟩)
    try go_wp2_with fail
    refine hK.out _ _ ?_ fun hJ2 => ?_
    ·exact ⟨hJ1.1.trans k1,y00 k1 hJ1.2.1,y00 k1 hJ1.2.2.1,y00 k1 hJ1.2.2.2.1,y00 k1 hJ1.2.2.2.2.1,y00 k1 hJ1.2.2.2.2.2.1,y00 k1 hJ1.2.2.2.2.2.2.1,y00 k1 hJ1.2.2.2.2.2.2.2.1,y00 k1 hJ1.2.2.2.2.2.2.2.2⟩
    clear hK K hJ1;try simp only [zP]
    refine tkV 7 ?_;try simp only [zP]
    refine wpAnyH_done (by kernel_rfl) ?_ _;have HB1 := HB0.out.step hJ2.1;obtain ⟨kk,c0,c1,c2,c3,m0,m1,m2,m3⟩ := hJ2;have HB2 : Aside (Best (w.heap.size + 1) w.heap.size m w1) := HB1;obtain ⟨_,_,_,_,f0,f1,f2,f3,_⟩ := HB1;go_wp2
    go_roundg 0
    case measure => omega
    case rel => exact ⟨y31 (hk.trans kk) (by omega) _ _ _ _,Or.inr (Or.inr (Or.inr (Or.inr (Or.inr (⟨rfl,by omega,Best.eq (b' := (pickE e0 e1 e2 e3 e4 e5 5)) (y54 (q := (pickE e0 e1 e2 e3 e4 e5 4)) hm.out HL.out) (HB2.out.put hn e5)⟩)))))⟩
   ·have hd := y8v h
    have HL : Aside (¬ e5.d < m.d) := h;clear h;go_wp2
    refine wp_region_held_drew (S := (fun w' => Kept wr w' ∧ Zc w' b 20 e5.x ∧ Zc w' b 21 e5.y ∧ Zc w' b 22 e5.z ∧ Zc w' b 23 e5.d ∧ Zc w' (w.heap.size + 1) 0 m.x ∧ Zc w' (w.heap.size + 1) 1 m.y ∧ Zc w' (w.heap.size + 1) 2 m.z ∧ Zc w' (w.heap.size + 1) 3 m.d)) (by kernel_rfl) ?_ (fun hJ1 => ?_)
    ·exact ⟨kd,y00 kd c0,y00 kd c1,y00 kd c2,y00 kd c3,y00 kd m0,y00 kd m1,y00 kd m2,y00 kd m3⟩
    refine tkU 0 (h:=tkU 1 (h:=tkU 2 (h:=tkV 3 ?_)));try simp only [zP]
    refine tkU 4 (h:=tkV 5 ?_);try simp only [zP]
    refine rdW 6 rfl fun K hK => ?_;simp only [zQ];go_simp
    (go_at_call 182; refine (y1k e5 m _).mono ?_; rintro e w1 ⟨rfl,k1⟩)
    try go_wp2_with fail
    refine hK.out _ _ ?_ fun hJ2 => ?_
    ·exact ⟨hJ1.1.trans k1,y00 k1 hJ1.2.1,y00 k1 hJ1.2.2.1,y00 k1 hJ1.2.2.2.1,y00 k1 hJ1.2.2.2.2.1,y00 k1 hJ1.2.2.2.2.2.1,y00 k1 hJ1.2.2.2.2.2.2.1,y00 k1 hJ1.2.2.2.2.2.2.2.1,y00 k1 hJ1.2.2.2.2.2.2.2.2⟩
    clear hK K hJ1;try simp only [zP]
    refine tkV 7 ?_;try simp only [zP]
    refine wpAnyH_done (by kernel_rfl) ?_ _;have HB1 := HB0.out.step hJ2.1;have kk := hJ2.1;clear hJ2;go_wp2
    go_roundg 0
    case measure => omega
    case rel => exact ⟨hk.trans kk,Or.inr (Or.inr (Or.inr (Or.inr (Or.inr (⟨rfl,by omega,Best.eq (b' := (pickE e0 e1 e2 e3 e4 e5 5)) (y57 (q := (pickE e0 e1 e2 e3 e4 e5 4)) hm.out (by have := HL.out; omega)) HB1⟩)))))⟩
  ·obtain ⟨m,hm0⟩ : ∃ m,m = (pickE e0 e1 e2 e3 e4 e5 5) := ⟨_,rfl⟩
   rw [← hm0] at HB;have hm : Aside (m = (pickE e0 e1 e2 e3 e4 e5 5)) := hm0;clear hm0;obtain ⟨m0,m1,m2,m3,_,_,_,_,r0,r1,r2,r3,g0,g1,g2,g3⟩ := HB;go_wp2
   obtain ⟨z0,z1,z2,z3⟩ := yfv (v0 := I m.x) (v1 := I m.y) (v2 := I m.z) (v3 := I m.d) r0 r1 r2 r3;exact bodyPost_ret (v := .agg #[I m.x,I m.y,I m.z,I m.d]) (by simp [results,Tryz.results181,go_sem,z0,z1,z2,z3]) rfl ⟨by rw [hm.out],y31 hk (by omega) _ _ _ _⟩
end Go.Proofs.YtbenlgandjjopaaGreatDoor
